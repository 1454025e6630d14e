/- spec's l11Union, Union. -/
import Derived.Test.YtejmfohkobhidaaUsA
import Derived.Test.YtejmfohkobhidaaUnA
import Derived.Test.YtejmfohkobhidaaStF
namespace Go.Proofs.Ytejmfohkobhidaa
open Go.ChangeShapes Go.WideShapes Go.ChangeAt Go.RowKit
set_option linter.unusedVariables false
set_option linter.unusedSimpArgs false
set_option maxRecDepth 100000

/-- The kept lists of stores. -/
def kepts (ms : List St) : List (List Ent) := ms.map St.kept
theorem keepAll_len (l : List Ent) : ∀ acc, (keepAll acc l).length ≤ acc.length + l.length := by
  induction l with
  | nil => intro acc; exact Nat.le_refl _
  | cons e l ih =>
    intro acc
    have h1 := ih (keepL e acc)
    have h2 := (keepL_len e acc).1
    show (keepAll (keepL e acc) l).length ≤ _
    simp only [List.length_cons]
    omega
theorem unL_len (ls : List (List Ent)) : (unL ls).length ≤ sumQ ls := by
  have : ∀ (ls : List (List Ent)) acc, (ls.foldl keepAll acc).length ≤ acc.length + sumQ ls := by
    intro ls
    induction ls with
    | nil => intro acc; simp [sumQ]
    | cons l ls ih =>
      intro acc
      have h1 := ih (keepAll acc l)
      have h2 := keepAll_len l acc
      have h3 : sumQ (l :: ls) = l.length + sumQ ls := by simp [sumQ]
      show (ls.foldl keepAll (keepAll acc l)).length ≤ _
      omega
  have := this ls []
  simpa [unL] using this
theorem sumQ_siz (ms : List St) : sumQ (kepts ms) ≤ sumS ms := by
  induction ms with
  | nil => simp [sumQ, kepts, sumS]
  | cons m l ih =>
    have e1 : sumQ (kepts (m :: l)) = m.kept.length + sumQ (kepts l) := by simp [sumQ, kepts]
    have e2 : sumS (m :: l) = sizStore m + sumS l := by simp [sumS]
    have e3 : m.kept.length ≤ sizStore m := by unfold sizStore sizEntryS; omega
    omega
/-- Small enough. -/
theorem smlU_of {ms : List St} (h : sizStoreS ms ≤ 1048576) : ms.length + sumQ (kepts ms) ≤ 1048576 := by
  have := sumQ_siz ms
  unfold sizStoreS at h
  omega
theorem sumQ_take (ls : List (List Ent)) (k : Nat) : sumQ (ls.take k) ≤ sumQ ls := by
  unfold sumQ
  conv => rhs; rw [← List.take_append_drop k ls, List.map_append, List.sum_append]
  exact Nat.le_add_right _ _
theorem sumQ_take1 (ls : List (List Ent)) (k : Nat) (h : k < ls.length) : sumQ (ls.take (k + 1)) = sumQ (ls.take k) + ls[k].length := by
  unfold sumQ
  rw [List.take_succ_eq_append_getElem h, List.map_append, List.sum_append, List.map_cons, List.map_nil, List.sum_cons, List.sum_nil, Nat.add_zero]
set_option maxHeartbeats 4000000 in
theorem l11Union_any (v : Value) (ms : List St) (w : World) (hv : RdStoreS v ms w) (hl : ms.length + sumQ (kepts ms) ≤ 1048576) :
    Calls Try.prog 56 #[v] w fun e w' => (∃ u, e = .returned u ∧ ApE w' w.heap.size u (unL (kepts ms))) ∧ Below w.heap.size w w' := by
  have ba : ∀ (w : World) o, Below w.heap.size w (w.alloc o) := fun w o => (Below.refl _ _).alloc (Nat.le_refl _) o
  obtain ⟨rs, rfl, hr, hn⟩ := hv
  have hlen : rs.length ≤ 1048576 := by rw [List.length_map] at hl; omega
  have HLS : Hid (∀ k (hk : k < rs.length) (j : Nat) (hj : j ≤ rs[k].m.kept.length), (keepAll (unL ((kepts (rs.map Ps.m)).take k)) (rs[k].m.kept.take j)).length ≤ 1048576) := fun k hk j hj => by
    have hk' : k < (kepts (rs.map Ps.m)).length := by simpa [kepts] using hk
    have h1 := unL_len ((kepts (rs.map Ps.m)).take k)
    have h2 := sumQ_take (kepts (rs.map Ps.m)) (k + 1)
    have h3 := sumQ_take1 (kepts (rs.map Ps.m)) k hk'
    have h5 := keepAll_len (rs[k].m.kept.take j) (unL ((kepts (rs.map Ps.m)).take k))
    have e : (kepts (rs.map Ps.m))[k] = rs[k].m.kept := by simp [kepts]
    rw [e] at h3
    rw [List.length_take] at h5
    rw [List.length_map] at hl
    omega
  have HST : Hid (∀ k (hk : k < rs.length), unL ((kepts (rs.map Ps.m)).take (k + 1)) = keepAll (unL ((kepts (rs.map Ps.m)).take k)) rs[k].m.kept) := fun k hk => by
    have hk' : k < (kepts (rs.map Ps.m)).length := by simpa [kepts] using hk
    rw [List.take_succ_eq_append_getElem hk', unL_snoc]
    congr 1
    simp [kepts]
  have HFN : Hid (∀ k, rs.length ≤ k → unL ((kepts (rs.map Ps.m)).take k) = unL (kepts (rs.map Ps.m))) := fun k hk => by rw [List.take_of_length_le (by simpa [kepts] using hk)]
  have HV := dHide fun W (hb : Below w.heap.size w W) => hr.below hb
  have HN := dHide fun W (hb : Below w.heap.size w W) k (hk : k < rs.length) => (hn _ (List.getElem_mem hk)).below hb
  obtain ⟨h0, a, cap, rfl, -, -⟩ := hr
  have B0 := ba w (.cells #[] 28)
  have A0 : ApE (w.alloc (.cells #[] 28)) w.heap.size (.slice (some ⟨w.heap.size, 0, none⟩) 0 0) [] := .inl ⟨rfl, _, rfl⟩
  have HU0 : Hid (unL ((kepts (rs.map Ps.m)).take 0) = []) := rfl
  generalize hKP : kepts (rs.map Ps.m) = KP at *
  clear hn hl hKP
  go_enter Try.func56, Try.ntmps56
  go_wp2
  generalize w.alloc (.cells #[] 28) = w0 at *
  go_loopw [3, 4] (fun o x wr => ∃ (k : Nat) (acc : List Ent), x = .int .i64 (k : Int) ∧ k ≤ rs.length ∧ Hid (acc = unL (KP.take k)) ∧ ApE wr w.heap.size o acc ∧ Below w.heap.size w wr) (fun _ x _ => rs.length - (intOf x).toNat)
  case atStart => exact ⟨0, [], rfl, Nat.zero_le _, (dUnhide HU0).symm, A0, B0⟩
  case round =>
    obtain ⟨k, acc, rfl, hk, hacc, A, hb⟩ := hrel
    clear A0 B0 HU0
    obtain ⟨oa, oc, rfl⟩ := ApR.slice elemE A
    by_cases hlt : (k : Int) < (rs.length : Int)
    · have hkl : k < rs.length := by omega
      have HC := dHide fun W (hB : Below w.heap.size w W) => by
        obtain ⟨b', off', e', hc'⟩ := (dUnhide HV W hB).ps hkl
        exact (⟨b', off', e', hc' k hkl⟩ : ∃ b' off', a = some ⟨b', off', none⟩ ∧ PsAt W b' (off' + k * 3) rs[k])
      have HKP := dHide fun W (hB : Below w.heap.size w W) => dUnhide HN W hB k hkl
      have HLk := dHide (dUnhide HLS k hkl)
      have HSk := dHide (dUnhide HST k hkl)
      obtain ⟨b, off, rfl, hc⟩ := (dUnhide HV wr hb).ps hkl
      clear hc HV HN HLS HST HFN
      generalize rs[k] = y at *
      obtain ⟨ya, yc, za, zc, es, ls, lk⟩ := y
      have HE : Hid (∀ W, Below w.heap.size w W → Rw 4 Ent.cl W (.slice ya es.length yc) es) := fun W hB => by
        obtain ⟨kv, lv, e, h1, -⟩ := dUnhide HKP W hB
        simp [psVal] at e
        obtain ⟨rfl, rfl⟩ := e
        exact h1
      have HC0 : Hid (∀ W, Below w.heap.size w W → W.cell? ⟨b, off + k * 3, none⟩ = some (.slice ya es.length yc)) := fun W hB => by
        obtain ⟨b', off', e', hc'⟩ := dUnhide HC W hB
        cases e'
        exact hc'.1
      simp only at *
      have hel : es.length ≤ 9223372036854775807 := (dUnhide HE wr hb).1
      clear HC HKP
      go_wp2
      go_loopw [3, 5] (fun o x wq => ∃ (j : Nat) (acc' : List Ent), x = .int .i64 (j : Int) ∧ j ≤ es.length ∧ Hid (acc' = keepAll acc (es.take j)) ∧ ApE wq w.heap.size o acc' ∧ Below w.heap.size w wq) (fun _ x _ => es.length - (intOf x).toNat)
      case atStart => exact ⟨0, acc, rfl, Nat.zero_le _, rfl, A, hb⟩
      case round =>
        clear A hb
        obtain ⟨j, acc', rfl, hj, hacc', A, hb⟩ := hrel
        obtain ⟨ob, od, rfl⟩ := ApR.slice elemE A
        have c0 := dUnhide HC0 _ hb
        by_cases hltj : (j : Int) < (es.length : Int)
        · have hjl : j < es.length := by omega
          have hll : acc'.length ≤ 1048576 := by rw [dUnhide hacc', dUnhide hacc]; exact dUnhide HLk j hj
          obtain ⟨eb, eo, rfl, hce⟩ := (dUnhide HE _ hb).ent hjl
          have EE := hce j hjl
          have CK := dHide (l6Keep_any _ acc' es[j] wr (ApR.own elemE A).rw hll)
          have hst : Hid (keepL es[j] acc' = keepAll acc (es.take (j + 1))) := by rw [Hid, List.take_succ_eq_append_getElem hjl, keepAll_snoc, dUnhide hacc']
          unfold Ent.val at CK
          generalize es[j] = e at *
          obtain ⟨c1, c2, c3, c4⟩ := EE
          clear hce hacc' hll
          go_wp2_with fail
          refine (dUnhide CK).mono ?_
          rintro r w2 ⟨⟨u, rfl, A2⟩, b2⟩
          have A3 := A2.mono (base' := w.heap.size) hb.size
          have hb2 := belowThen hb b2
          clear CK A2 b2 A c0 c1 c2 c3 c4
          go_wp2
          go_roundw
          case rel => exact ⟨j + 1, _, by go_num, by omega, hst, A3, hb2⟩
          case measure => simp [intOf]; omega
        · have e1 : Hid (acc' = unL (KP.take (k + 1))) := by rw [Hid, dUnhide HSk, dUnhide hacc', dUnhide hacc, List.take_of_length_le (l := es) (by omega)]
          clear hacc' HLk HSk
          go_wp2
          go_roundw
          case rel => exact ⟨k + 1, acc', by go_num, by omega, e1, A, hb⟩
          case measure => simp [intOf]; omega
    · have e1 : acc = unL KP := by rw [dUnhide hacc]; exact dUnhide HFN k (by omega)
      subst e1
      clear hacc HV HN HLS HST HFN
      go_wp2
      go_ret
      exact ⟨⟨_, rfl, A⟩, hb⟩
/-- What Union answers. -/
noncomputable def unM (ms : List St) : List Ent := @ite _ (∀ m ∈ ms, stP m) (Classical.propDecidable _) (unL (kepts ms)) []
theorem unM_yes {ms : List St} (h : ∀ m ∈ ms, stP m) : unM ms = unL (kepts ms) := if_pos h
theorem unM_no {ms : List St} (h : ¬ ∀ m ∈ ms, stP m) : unM ms = [] := if_neg h
theorem unM_len (ms : List St) : (unM ms).length ≤ sumS ms := by
  by_cases h : ∀ m ∈ ms, stP m
  · rw [unM_yes h]
    exact Nat.le_trans (unL_len _) (sumQ_siz ms)
  · rw [unM_no h]
    exact Nat.zero_le _
end Go.Proofs.Ytejmfohkobhidaa
