/- The stores of all but the lost: the model; slices.Contains on ints; impl's storesBeside. -/
import Derived.Test.YtejmfohkobhidaaUnS
import Derived.Test.YtejmfohkobhidaaUsB
import Derived.Test.YtejmfohkobhidaaGf4
namespace Go.Proofs.Ytejmfohkobhidaa
open Go.ChangeShapes Go.WideShapes Go.ChangeAt Go.RowKit
set_option linter.unusedVariables false
set_option linter.unusedSimpArgs false
set_option maxRecDepth 100000

/-- Those among the first k whose number is not in the list. -/
def bes {α : Type} (lost : List Int) (ms : List α) (k : Nat) : List α := ((List.range k).filter fun (i : Nat) => !decide ((i : Int) ∈ lost)).filterMap fun (i : Nat) => ms[i]?
theorem bes_zero {α : Type} (lost : List Int) (ms : List α) : bes lost ms 0 = [] := rfl
theorem bes_in {α : Type} {lost : List Int} {ms : List α} {k : Nat} (h : (k : Int) ∈ lost) : bes lost ms (k + 1) = bes lost ms k := by
  unfold bes
  rw [List.range_succ, List.filter_append]
  simp [h]
theorem bes_out {α : Type} {lost : List Int} {ms : List α} {k : Nat} (hk : k < ms.length) (h : ¬ (k : Int) ∈ lost) : bes lost ms (k + 1) = bes lost ms k ++ [ms[k]] := by
  unfold bes
  rw [List.range_succ, List.filter_append, List.filterMap_append]
  simp [h, hk]
theorem bes_map {α β : Type} (f : α → β) (lost : List Int) (ms : List α) (k : Nat) : (bes lost ms k).map f = bes lost (ms.map f) k := by
  unfold bes
  rw [List.map_filterMap]
  congr 1
  funext i
  simp
theorem mem_bes {α : Type} {lost : List Int} {ms : List α} {k : Nat} {x : α} (h : x ∈ bes lost ms k) : x ∈ ms := by
  unfold bes at h
  obtain ⟨i, -, hi⟩ := List.mem_filterMap.1 h
  exact List.mem_of_getElem? hi
theorem bes_len {α : Type} (lost : List Int) (ms : List α) (k : Nat) : (bes lost ms k).length ≤ k := by
  unfold bes
  have h1 := List.length_filterMap_le (fun i : Nat => ms[i]?) ((List.range k).filter fun (i : Nat) => !decide ((i : Int) ∈ lost))
  have h2 := List.length_filter_le (fun i : Nat => !decide ((i : Int) ∈ lost)) (List.range k)
  rw [List.length_range] at h2
  omega
theorem bes_siz (lost : List Int) (ms : List St) : ∀ k, k ≤ ms.length → sizStoreS (bes lost ms k) ≤ k + sumS (ms.take k) := by
  intro k
  induction k with
  | zero => intro _; simp [bes_zero, sizStoreS, sumS]
  | succ n ih =>
    intro hk
    have h1 := ih (by omega)
    have h2 := sumS_take ms n (by omega)
    by_cases h : (n : Int) ∈ lost
    · rw [bes_in h]; omega
    · rw [bes_out (by omega) h]
      have e : sizStoreS (bes lost ms n ++ [ms[n]]) = sizStoreS (bes lost ms n) + 1 + sizStore ms[n] := by simp [sizStoreS, sumS]; omega
      rw [e]
      omega
/-- The stores of all but the lost. -/
def othL (lost : List Int) (ms : List St) : List St := bes lost ms ms.length
theorem othL_siz {lost : List Int} {ms : List St} (h : sizStoreS ms ≤ 1048576) : sizStoreS (othL lost ms) ≤ 1048576 := by
  have h1 := bes_siz lost ms ms.length (Nat.le_refl _)
  rw [List.take_length] at h1
  unfold sizStoreS at h
  unfold othL
  omega
/-- Fill goes through. -/
def fillP (ds : List Int) (cop : Int) (ms : List St) (lost : List Int) (node upto : Int) : Prop := (ms.length = ds.length ∧ lostP ds cop lost ∧ node ∈ lost) ∧ (∀ m ∈ othL lost ms, stP m) ∧ stP ⟨unL (kepts (othL lost ms)), [], upto⟩
noncomputable def fillM (ds : List Int) (cop : Int) (ms : List St) (lost : List Int) (node upto : Int) : St × Bool := @ite _ (fillP ds cop ms lost node upto) (Classical.propDecidable _) (⟨unL (kepts (othL lost ms)), [], upto⟩, true) (⟨[], [], 0⟩, false)
theorem fillM_yes {ds : List Int} {cop : Int} {ms : List St} {lost : List Int} {node upto : Int} (h : fillP ds cop ms lost node upto) : fillM ds cop ms lost node upto = (⟨unL (kepts (othL lost ms)), [], upto⟩, true) := if_pos h
theorem fillM_no {ds : List Int} {cop : Int} {ms : List St} {lost : List Int} {node upto : Int} (h : ¬ fillP ds cop ms lost node upto) : fillM ds cop ms lost node upto = (⟨[], [], 0⟩, false) := if_neg h
/-- One store as a row of its own. -/
theorem rwS_one (w : World) (p : Ps) (T : TypeId) (c : Nat) (hc : 1 ≤ c ∧ c ≤ 9223372036854775807) : Rw 3 psCl (w.alloc (.cells #[.slice p.ka p.m.kept.length p.kc, .slice p.la p.m.late.length p.lc, .int .i64 p.m.lock] T)) (.slice (some ⟨w.heap.size, 0, none⟩) 1 c) [p] := by
  refine ⟨by simp, _, _, rfl, by simpa using hc, .inr ⟨w.heap.size, 0, rfl, fun i hi j u hu => ?_⟩⟩
  obtain rfl : i = 0 := by simp at hi; omega
  simp only [List.getElem_cons_zero, psCl] at hu
  simpa using hu
/-- A row of stores that may be appended to. -/
def ApS (w : World) (base : Nat) (v : Value) (rs : List Ps) : Prop := ApR 26 3 psCl w base v rs
set_option maxHeartbeats 2000000 in
theorem indexI_any (v : Value) (xs : List Int) (y : Int) (w : World) (hv : Ns w v xs) :
    Calls Try.prog 79 #[v, .int .i64 y] w fun e w' => (∃ n : Int, e = .returned (.int .i64 n) ∧ (0 ≤ n ↔ y ∈ xs)) ∧ w' = w := by
  obtain ⟨h0, a, cap, rfl, -, hv⟩ := hv
  have HV := dHide hv
  clear hv
  have FY : Hid (∀ k : Nat, y ∈ xs → ∃ n : Int, Ending.returned (.int .i64 (k : Int)) = .returned (.int .i64 n) ∧ (0 ≤ n ↔ y ∈ xs)) := fun k h => ⟨_, rfl, fun _ => h, fun _ => by omega⟩
  have FN : Hid (¬ y ∈ xs → ∃ n : Int, Ending.returned (.int .i64 (-1)) = .returned (.int .i64 n) ∧ (0 ≤ n ↔ y ∈ xs)) := fun h => ⟨_, rfl, fun h' => absurd h' (by decide), fun h' => absurd h' h⟩
  generalize hG : (fun e => ∃ n : Int, e = Ending.returned (.int .i64 n) ∧ (0 ≤ n ↔ y ∈ xs)) = G
  have HG : Hid (∀ e, (∃ n : Int, e = Ending.returned (.int .i64 n) ∧ (0 ≤ n ↔ y ∈ xs)) → G e) := fun e h => by rw [← hG]; exact h
  have key : Calls Try.prog 79 #[.slice a xs.length cap, .int .i64 y] w fun e w' => G e ∧ w' = w := by
    clear hG
    go_enter Try.func79, Try.ntmps79
    go_wp2
    go_loop [8] (fun x => ∃ k : Nat, x = .int .i64 (k : Int) ∧ k ≤ xs.length ∧ Hid (∀ i (h : i < xs.length), i < k → xs[i] ≠ y)) (fun x => xs.length - (intOf x).toNat)
    case atStart => exact ⟨0, rfl, Nat.zero_le _, fun i h h' => by omega⟩
    case round =>
      obtain ⟨k, rfl, hk, hinv⟩ := hrel
      by_cases hlt : (k : Int) < (xs.length : Int)
      · obtain ⟨b, off, rfl, hc⟩ : ∃ b off, a = some ⟨b, off, none⟩ ∧ ∀ i (h : i < xs.length), w.cell? ⟨b, off + i, none⟩ = some (.int .i64 xs[i]) := orN_of_lt (dUnhide HV) (k := k) (by omega)
        have hkl : k < xs.length := by omega
        have c1 := hc k hkl
        obtain ⟨x, hx⟩ : ∃ x, xs[k] = x := ⟨_, rfl⟩
        have HX := dHide hx
        rw [hx] at c1
        clear hx hc
        by_cases hxy : y = x
        · have hxy' : (y == x) = true := by simp [hxy]
          have hyes : Hid (y ∈ xs) := by rw [Hid, hxy, ← dUnhide HX]; exact List.getElem_mem hkl
          have FIN := dHide (dUnhide HG _ (dUnhide FY k (dUnhide hyes)))
          clear hinv HX HV hxy FY FN HG hyes
          go_wp2
          go_ret
          exact ⟨dUnhide FIN, rfl⟩
        · have hxy' : (y == x) = false := by simp [hxy]
          have hst : Hid (∀ i (h : i < xs.length), i < k + 1 → xs[i] ≠ y) := fun i h h' => by
            rcases Nat.lt_or_ge i k with hlt' | hge
            · exact dUnhide hinv i h hlt'
            · obtain rfl : i = k := by omega
              rw [dUnhide HX]
              exact fun e => hxy e.symm
          clear hinv HX HV hxy
          go_wp2
          go_round
          case rel => exact ⟨k + 1, by go_num, by omega, hst⟩
          case measure => simp [intOf]; omega
      · have hno : Hid (¬ y ∈ xs) := fun h => by
          obtain ⟨i, hi, e⟩ := List.getElem_of_mem h
          exact dUnhide hinv i hi (by omega) e
        have FIN := dHide (dUnhide HG _ (dUnhide FN (dUnhide hno)))
        clear hinv HV FY FN HG hno
        go_wp2
        go_ret
        exact ⟨dUnhide FIN, rfl⟩
  rw [← hG] at key
  exact key
theorem containsI_any (v : Value) (xs : List Int) (y : Int) (w : World) (hv : Ns w v xs) :
    Calls Try.prog 51 #[v, .int .i64 y] w fun e w' => RetB (y ∈ xs) e ∧ w' = w := by
  have C := dHide (indexI_any v xs y w hv)
  have HD : Hid (∀ n : Int, (0 ≤ n ↔ y ∈ xs) → RetB (y ∈ xs) (.returned (.bool (decide (0 ≤ n))))) := fun n h => ⟨_, rfl, by rw [← h]; exact decide_eq_true_iff⟩
  obtain ⟨h0, a, cap, rfl, -, -⟩ := hv
  go_enter Try.func51, Try.ntmps51
  go_wp2_with fail
  refine (dUnhide C).mono ?_
  rintro e w1 ⟨⟨n, rfl, hn⟩, rfl⟩
  have F := dHide (dUnhide HD n hn)
  clear hn C HD
  go_wp2
  go_ret
  exact ⟨dUnhide F, rfl⟩
set_option maxHeartbeats 4000000 in
theorem storesBeside_any (u v : Value) (lost : List Int) (rs : List Ps) (w : World) (hu : Ns w u lost) (hal : allInt lost) (hll : lost.length ≤ 1048576) (hr : Rw 3 psCl w v rs) (hlen : rs.length ≤ 1048576) :
    Calls Try.prog 53 #[u, v] w fun e w' => (∃ o, e = .returned o ∧ ApS w' w.heap.size o (bes lost rs rs.length)) ∧ Below w.heap.size w w' := by
  have ba : ∀ (w : World) o, Below w.heap.size w (w.alloc o) := fun w o => (Below.refl _ _).alloc (Nat.le_refl _) o
  have CO := dHide (setOf_any u lost w hu hal hll)
  have HV := dHide fun W (hb : Below w.heap.size w W) => hr.below hb
  obtain ⟨-, ua, uc, rfl, -, -⟩ := hu
  obtain ⟨h0, a, cap, rfl, -, -⟩ := hr
  have HBL : Hid (∀ k, k ≤ rs.length → (bes lost rs k).length ≤ 1048576) := fun k hk => by have := bes_len lost rs k; omega
  have HMD : Hid (∀ z, z ∈ dedL lost ↔ z ∈ lost) := fun z => mem_dedL
  clear hal hll
  go_enter Try.func53, Try.ntmps53
  go_wp2_with fail
  refine (dUnhide CO).mono ?_
  rintro e w1 ⟨rfl, SN, b1⟩
  have HSN := dHide fun W (hb : Below w1.heap.size w1 W) => SN.below hb
  have hsl := SN.lt
  have hbw := dHide b1.size
  clear SN CO
  go_wp2_with fail
  go_loopw [6, 13] (fun o x wr => ∃ (k : Nat), x = .int .i64 (k : Int) ∧ k ≤ rs.length ∧ ApS wr w1.heap.size o (bes lost rs k) ∧ Below w1.heap.size w1 wr) (fun _ x _ => rs.length - (intOf x).toNat)
  case atStart => exact ⟨0, rfl, Nat.zero_le _, .inl ⟨rfl, _, rfl⟩, Below.refl _ _⟩
  case round =>
    obtain ⟨k, rfl, hk, A, hb⟩ := hrel
    obtain ⟨oa, oc, rfl⟩ := ApR.slice elemS A
    by_cases hlt : (k : Int) < (rs.length : Int)
    · have hkl : k < rs.length := by omega
      obtain ⟨b, off, rfl, hc⟩ := (dUnhide HV wr (belowThen b1 hb)).ps hkl
      obtain ⟨c0, c1, c2⟩ := hc k hkl
      have RO : Hid (∀ (w : World) T, Rw 3 psCl (w.alloc (.cells #[.slice rs[k].ka rs[k].m.kept.length rs[k].kc, .slice rs[k].la rs[k].m.late.length rs[k].lc, .int .i64 rs[k].m.lock] T)) (.slice (some ⟨w.heap.size, 0, none⟩) 1 1) [rs[k]]) := fun w T => rwS_one w rs[k] T 1 (by omega)
      have HI : Hid ((k : Int) ∈ lost → bes lost rs (k + 1) = bes lost rs k) := bes_in
      have HO : Hid (¬ (k : Int) ∈ lost → bes lost rs (k + 1) = bes lost rs k ++ [rs[k]]) := bes_out hkl
      have CH := dHide fun W (hb : Below w1.heap.size w1 W) => setHas_any w.heap.size (dedL lost) (k : Int) W (dUnhide HSN W hb) (by omega)
      have HMk := dHide (dUnhide HMD (k : Int))
      have hbl := dUnhide HBL k hk
      generalize rs[k] = y at *
      obtain ⟨ya, yc, za, zc, m⟩ := y
      simp only at *
      clear hc
      have X0 := Bx.new wr [.slice ya m.kept.length yc, .slice za m.late.length zc, .int .i64 m.lock] 26
      have B0 := ba wr (.cells #[.slice ya m.kept.length yc, .slice za m.late.length zc, .int .i64 m.lock] 26)
      go_wp2_with fail
      generalize wr.alloc (.cells #[.slice ya m.kept.length yc, .slice za m.late.length zc, .int .i64 m.lock] 26) = w2 at *
      refine (dUnhide CH _ (belowThen hb B0)).mono ?_
      rintro e w3 ⟨⟨b3, rfl, h3⟩, bl3⟩
      have hb03 := belowThen B0 bl3
      have hb3 := belowThen hb hb03
      have A3 := ApR.below A hb03
      have X3 := X0.below bl3
      have k0 := X3 0 _ rfl
      have k1 := X3 1 _ rfl
      have k2 := X3 2 _ rfl
      cases b3
      · have e1 := dUnhide HO fun h => by have := h3.2 ((dUnhide HMk).2 h); cases this
        have HA3 := dHide A3
        have hsz : w1.heap.size ≤ w3.heap.size := hb3.size
        generalize hBK : bes lost rs k = BK at *
        clear CH h3 c0 c1 c2 X0 X3 B0 bl3 hb03 A A3 HI HO HMk hBK
        go_wp2_with (at_builtin; refine wp_apR elemS rfl _ _ rfl w1.heap.size (.slice oa BK.length oc) BK rfl (ApR.below (dUnhide HA3) (ba _ _)) _ [⟨ya, yc, za, zc, m⟩] rfl (dUnhide RO _ _) ?c1 ?c2 ?c3 ?_)
        case c1 => (try simp); omega
        case c2 => (try simp); omega
        case c3 => exact (belowThen hb3 (ba _ _)).size
        intro v4 w4 P4 g4 t4
        have hb4 := Below.grown (belowThen hb3 (ba _ _)) g4 (belowThen hb3 (ba _ _)).size (fun k hk => ((dUnhide HA3).touched elemS hk).1)
        rw [← e1] at P4
        have HP4 := dHide P4
        clear g4 t4 HA3 P4 k0 k1 k2 e1 RO
        go_wp2
        go_roundw
        case rel => exact ⟨k + 1, by go_num, by omega, dUnhide HP4, hb4⟩
        case measure => simp [intOf]; omega
      · have e1 := dUnhide HI ((dUnhide HMk).1 (h3.1 rfl))
        have A4 : ApS w3 w1.heap.size (.slice oa (bes lost rs k).length oc) (bes lost rs (k + 1)) := by rw [e1]; exact A3
        have HA4 := dHide A4
        clear CH h3 c0 c1 c2 X0 X3 B0 bl3 hb03 A A3 HI HO HMk RO A4 e1 k0 k1 k2
        go_wp2
        go_roundw
        case rel => exact ⟨k + 1, by go_num, by omega, dUnhide HA4, hb3⟩
        case measure => simp [intOf]; omega
    · have e1 : k = rs.length := by omega
      subst e1
      have HA := dHide (A.mono (base' := w.heap.size) (dUnhide hbw))
      clear A HV HSN
      go_wp2
      go_ret
      exact ⟨⟨_, rfl, dUnhide HA⟩, belowThen b1 hb⟩
end Go.Proofs.Ytejmfohkobhidaa
