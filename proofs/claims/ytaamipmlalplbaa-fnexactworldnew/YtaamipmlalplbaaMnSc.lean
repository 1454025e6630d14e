/- Mends, as the exact laws handle them: marked, held. -/
import Derived.Test.YtaamipmlalplbaaMnSb
namespace Go.Proofs.Ytaamipmlalplbaa
open Go.ChangeShapes Go.WideShapes Go.ChangeAt Go.RowKit
set_option linter.unusedVariables false
set_option linter.unusedSimpArgs false
set_option maxRecDepth 100000

/-- A list, marked. -/
def mkL (k0 : Nat) (rs : List (Nst (List Int))) (i : Nat) : Nst (List Int) := ⟨(rs.getD i zeroL).a, (rs.getD i zeroL).c, marksN (k0 + sumL ((rs.map Nst.m).take i)) (rs.getD i zeroL).m.length⟩
/-- All lists, marked. -/
def mkLs (k0 : Nat) (rs : List (Nst (List Int))) : List (Nst (List Int)) := (List.range rs.length).map (mkL k0 rs)
theorem mkLs_len (k0 : Nat) (rs : List (Nst (List Int))) : (mkLs k0 rs).length = rs.length := by simp [mkLs]
theorem mkLs_at (k0 : Nat) (rs : List (Nst (List Int))) (i : Nat) (h : i < rs.length) (h' : i < (mkLs k0 rs).length) : (mkLs k0 rs)[i] = ⟨rs[i].a, rs[i].c, marksN (k0 + sumL ((rs.map Nst.m).take i)) rs[i].m.length⟩ := by
  simp [mkLs, mkL, h]
theorem mkLs_m (k0 : Nat) (rs : List (Nst (List Int))) : (mkLs k0 rs).map Nst.m = mkIntSS k0 (rs.map Nst.m) := by
  apply List.ext_getElem
  · rw [List.length_map, mkLs_len, mkIntSS_len, List.length_map]
  · intro i h1 h2
    have hi : i < rs.length := by rw [List.length_map, mkLs_len] at h1; exact h1
    rw [List.getElem_map, mkLs_at k0 rs i hi, mkIntSS_at k0 (rs.map Nst.m) i (by simpa using hi), List.getElem_map]
/-- The state of marking. -/
def MarkL (lo hi k0 : Nat) (w wr : World) (rs : List (Nst (List Int))) (k : Nat) : Prop :=
  (∀ i (h : i < rs.length), OwN lo hi (Sv idL rs[i]) (if i < k then marksN (k0 + sumL ((rs.map Nst.m).take i)) rs[i].m.length else rs[i].m) wr) ∧ Wr lo hi w wr ∧ (∀ j, j < w.heap.size → (∀ p ∈ rs, p.m = [] ∨ blockOf (Sv idL p) ≠ j) → wr.heap[j]? = w.heap[j]?) ∧ hi ≤ wr.heap.size
theorem MarkL.step {lo hi k0 : Nat} {w wr w2 : World} {k : Nat} {rs : List (Nst (List Int))} {v : Value} (h : MarkL lo hi k0 w wr rs k) (hk : k < rs.length) (hA : Apart idL v rs)
    (hO : OwN lo hi (Sv idL rs[k]) (marksN (k0 + sumL ((rs.map Nst.m).take k)) rs[k].m.length) w2) (b1 b2 : Nat) (hW : Wr b1 b2 wr w2) (hd : (rs[k].m = [] ∧ b1 = 0 ∧ b2 = 0) ∨ (rs[k].m ≠ [] ∧ b1 = blockOf (Sv idL rs[k]) ∧ b2 = blockOf (Sv idL rs[k]) + 1)) (hW' : Wr lo hi wr w2) :
    MarkL lo hi k0 w w2 rs (k + 1) := by
  obtain ⟨h1, h2, h3, h4⟩ := h
  refine ⟨fun i hil => ?_, h2.trans hW', fun j hj hp => ?_, Nat.le_trans h4 hW'.size⟩
  · by_cases e : i = k
    · subst e
      rw [if_pos (by omega)]
      exact hO
    · have ei : (if i < k + 1 then marksN (k0 + sumL ((rs.map Nst.m).take i)) rs[i].m.length else rs[i].m) = (if i < k then marksN (k0 + sumL ((rs.map Nst.m).take i)) rs[i].m.length else rs[i].m) := by
        by_cases e' : i < k
        · rw [if_pos (by omega), if_pos e']
        · rw [if_neg (by omega), if_neg e']
      rw [ei]
      refine (h1 i hil).wr hW ?_
      rcases hd with ⟨-, rfl, rfl⟩ | ⟨hn, rfl, rfl⟩
      · exact .inr (.inr (Nat.zero_le _))
      · rcases hA.1 i k hil hk e with h | h | h
        · left
          change rs[i].m = [] at h
          rw [h]
          split
          · rfl
          · rfl
        · exact absurd h hn
        · exact .inr (by omega)
  · rw [← h3 j hj hp]
    refine hW.block j (Nat.lt_of_lt_of_le hj h2.size) ?_
    rcases hd with ⟨-, rfl, rfl⟩ | ⟨hn, rfl, rfl⟩
    · exact .inr (Nat.zero_le _)
    · have := (hp _ (List.getElem_mem hk)).resolve_left hn
      omega
set_option maxHeartbeats 4000000 in
theorem markIntSS_in (lo hi : Nat) (v : Value) (rs : List (Nst (List Int))) (k0 : Nat) (w : World) (hk : k0 ≤ 536870912) (hl : sumL (rs.map Nst.m) ≤ 536870912) (hll : rs.length ≤ 9223372036854775807) (hf : hi ≤ w.heap.size) (h : OwL lo hi v rs w) :
    Calls Try.prog 52 #[v, .int .i64 (k0 : Int)] w fun e w' => e = .returned (.int .i64 ((k0 + sumL (rs.map Nst.m) : Nat) : Int)) ∧ OwL lo hi v (mkLs k0 rs) w' ∧ (∀ j, j < w.heap.size → (∀ p ∈ rs, p.m = [] ∨ blockOf (Sv idL p) ≠ j) → w'.heap[j]? = w.heap[j]?) ∧ Wr lo hi w w' := by
  have hO0 := h
  obtain ⟨hO, hB, hN, hA⟩ := h
  have HV : Hid (∀ W, (∀ j, j < w.heap.size → (∀ p ∈ rs, p.m = [] ∨ blockOf (Sv idL p) ≠ j) → W.heap[j]? = w.heap[j]?) → OwnRw 1 lsCl W lo v rs) := fun W hW => by
    have hlt := hO.ltG lsCl_len (by decide)
    obtain ⟨h0, a, cap, rfl, hcap, h⟩ := hO
    refine ⟨h0, a, cap, rfl, hcap, ?_⟩
    rcases h with h | ⟨b, off, rfl, hb', hc⟩
    · exact .inl h
    · rcases hlt with h | hlt
      · exact .inl h
      · have e := hW b hlt (fun p hp => by
          obtain ⟨i, hi, rfl⟩ := List.mem_iff_getElem.1 hp
          exact hA.2 i hi)
        exact .inr ⟨b, off, rfl, hb', fun i hi j u hu => ⟨(World.cell?_of_block (a := ⟨b, off + i * 1 + j, none⟩) e).trans (hc i hi j u hu).1, (World.frozen?_of_block (a := ⟨b, off + i * 1 + j, none⟩) e).trans (hc i hi j u hu).2⟩⟩
  obtain ⟨-, a, cap, rfl, hcap, -⟩ := hO.rw
  have HS : Hid (∀ k (hk : k < rs.length), rs[k].m.length ≤ 536870912 ∧ sumL ((rs.map Nst.m).take (k + 1)) = sumL ((rs.map Nst.m).take k) + rs[k].m.length ∧ sumL ((rs.map Nst.m).take (k + 1)) ≤ 536870912) := fun k hk => by
    have h1 := sumL_take (rs.map Nst.m) k (by simpa using hk)
    have h2 := sumL_le (rs.map Nst.m) (k + 1)
    rw [List.getElem_map] at h1
    exact ⟨by omega, h1, by omega⟩
  have HM0 : Hid (MarkL lo hi k0 w w rs 0) := ⟨fun i hi => by rw [if_neg (by omega)]; exact hN _ (List.getElem_mem hi), Wr.refl _ _ _, fun _ _ _ => rfl, hf⟩
  have FIN : Hid (∀ W : World, MarkL lo hi k0 w W rs rs.length → OwL lo hi (.slice a rs.length cap) (mkLs k0 rs) W) := fun W ⟨h1, h2, h3, h4⟩ => by
    have o := dUnhide HV W h3
    refine ⟨?_, ?_, fun p hp => ?_, fun i j hi hj hij => ?_, fun i hi => ?_⟩
    · obtain ⟨q0, a', cap', e, qc, q⟩ := o
      refine ⟨by rw [mkLs_len]; exact q0, a', cap', by rw [mkLs_len]; exact e, by rw [mkLs_len]; exact qc, ?_⟩
      rcases q with q | ⟨b, off, e1, hb', hc⟩
      · left; subst q; rfl
      · refine .inr ⟨b, off, e1, hb', fun i hi j u hu => hc i (by rw [mkLs_len] at hi; exact hi) j u ?_⟩
        rw [mkLs_at k0 rs i (by rw [mkLs_len] at hi; exact hi)] at hu
        unfold lsCl at hu ⊢
        simpa only [marksN_len] using hu
    · rcases hB with h | h
      · left; subst h; rfl
      · exact .inr h
    · obtain ⟨i, hi, rfl⟩ := List.mem_iff_getElem.1 hp
      have hi' : i < rs.length := by rw [mkLs_len] at hi; exact hi
      have q := h1 i hi'
      rw [if_pos hi'] at q
      rw [mkLs_at k0 rs i hi', sv_mk]
      exact q
    · rw [mkLs_len] at hi hj
      rw [mkLs_at k0 rs i hi, mkLs_at k0 rs j hj, sv_mk, sv_mk]
      rcases hA.1 i j hi hj hij with h | h | h
      · exact .inl ((nil_of_len (marksN_len _ _)).2 h)
      · exact .inr (.inl ((nil_of_len (marksN_len _ _)).2 h))
      · exact .inr (.inr h)
    · rw [mkLs_len] at hi
      rw [mkLs_at k0 rs i hi, sv_mk]
      rcases hA.2 i hi with h | h
      · exact .inl ((nil_of_len (marksN_len _ _)).2 h)
      · exact .inr h
  have HA := dHide hA
  have hcn : Hid (sumL ((rs.map Nst.m).take rs.length) = sumL (rs.map Nst.m)) := by rw [Hid, List.take_of_length_le (by simp)]
  clear hO hB hN hA hl hO0
  go_enter Try.func52, Try.ntmps52
  go_wp2
  go_loopw [5, 1] (fun x y wr => ∃ (k K : Nat), x = .int .i64 (k : Int) ∧ y = .int .i64 (K : Int) ∧ k ≤ rs.length ∧ K ≤ 1073741824 ∧ Hid (K = k0 + sumL ((rs.map Nst.m).take k)) ∧ Hid (MarkL lo hi k0 w wr rs k)) (fun x _ _ => rs.length - (intOf x).toNat)
  case atStart => exact ⟨0, k0, rfl, rfl, Nat.zero_le _, by omega, rfl, dUnhide HM0⟩
  case round =>
    obtain ⟨k, K, rfl, rfl, hkk, hKb, hK, hM⟩ := hrel
    by_cases hlt : (k : Int) < (rs.length : Int)
    · have hkl : k < rs.length := by omega
      obtain ⟨s1, s2, s3⟩ := dUnhide HS k hkl
      have hrow := dUnhide HV wr (dUnhide hM).2.2.1
      obtain ⟨b, off, rfl, hc⟩ := hrow.rw.ls hkl
      have c0 := hc k hkl
      have CT : Hid (Calls Try.prog 27 #[Sv idL rs[k], .int .i64 (K : Int)] wr fun e w' => e = .returned (.int .i64 ((K + rs[k].m.length : Nat) : Int)) ∧ OwN lo hi (Sv idL rs[k]) (marksN K rs[k].m.length) w' ∧ (∃ b1 b2, Wr b1 b2 wr w' ∧ ((rs[k].m = [] ∧ b1 = 0 ∧ b2 = 0) ∨ (rs[k].m ≠ [] ∧ b1 = blockOf (Sv idL rs[k]) ∧ b2 = blockOf (Sv idL rs[k]) + 1))) ∧ Wr lo hi wr w') := by
        have q := (dUnhide hM).1 k hkl
        rw [if_neg (by omega)] at q
        exact markN_in lo hi (Sv idL rs[k]) rs[k].m K wr (by omega) (by omega) (dUnhide hM).2.2.2 q
      have ST : Hid (∀ w2, OwN lo hi (Sv idL rs[k]) (marksN K rs[k].m.length) w2 → ∀ b1 b2, Wr b1 b2 wr w2 → ((rs[k].m = [] ∧ b1 = 0 ∧ b2 = 0) ∨ (rs[k].m ≠ [] ∧ b1 = blockOf (Sv idL rs[k]) ∧ b2 = blockOf (Sv idL rs[k]) + 1)) → Wr lo hi wr w2 → MarkL lo hi k0 w w2 rs (k + 1)) := fun w2 hO b1 b2 hW hd hW' => by
        have hK' := dUnhide hK
        subst hK'
        exact (dUnhide hM).step hkl (dUnhide HA) hO b1 b2 hW hd hW'
      have hK2 : Hid (K + rs[k].m.length = k0 + sumL ((rs.map Nst.m).take (k + 1))) := by rw [Hid, s2, dUnhide hK]; omega
      have hKb2 : K + rs[k].m.length ≤ 1073741824 := by rw [dUnhide hK2]; omega
      rw [sv_id] at CT ST
      generalize hy : rs[k] = y at *
      obtain ⟨ya, yc, yn⟩ := y
      simp only at *
      clear hM s1 s2 s3 hrow hc
      go_wp2_with fail
      refine (dUnhide CT).mono ?_
      rintro r w2 ⟨rfl, o2, ⟨d1, d2, d3, hd1⟩, d4⟩
      have HM2 := dHide (dUnhide ST w2 o2 d1 d2 d3 hd1 d4)
      clear CT ST o2 d1 hd1 d3 d4 c0
      generalize K + yn.length = K' at *
      go_wp2
      go_roundw
      case rel => exact ⟨k + 1, K', by go_num, rfl, by omega, hKb2, hK2, dUnhide HM2⟩
      case measure => simp [intOf]; omega
    · have e1 : k = rs.length := by omega
      subst e1
      have e2 : Hid ((K : Int) = ((k0 + sumL (rs.map Nst.m) : Nat) : Int)) := by rw [Hid, dUnhide hK, dUnhide hcn]
      have O := dHide (dUnhide FIN wr (dUnhide hM))
      have hw := dHide (dUnhide hM).2.1
      have hj := dHide (dUnhide hM).2.2.1
      clear hM hK FIN HM0 hcn HV
      go_wp2
      go_ret
      exact ⟨by have e := dUnhide e2; simp only [Int.natCast_add] at e; simp [e], dUnhide O, dUnhide hj, dUnhide hw⟩
set_option maxHeartbeats 4000000 in
theorem heldIntSS_ (v : Value) (m : List (List Int)) (k0 : Nat) (w : World) (hk : k0 ≤ 536870912) (hl : sumL m ≤ 536870912) (h : RdIntSS v (mkIntSS k0 m) w) :
    Calls Try.prog 58 #[v, .int .i64 (k0 : Int)] w fun e w' => e = .returned (.int .i64 ((k0 + sumL m : Nat) : Int)) ∧ Below w.heap.size w w' := by
  obtain ⟨rs, hm, hr, hn⟩ := h
  have em : m.length = rs.length := by rw [← mkIntSS_len k0 m, ← hm, List.length_map]
  have HV := dHide fun W (hb : Below w.heap.size w W) => hr.below hb
  have HN : Hid (∀ W, Below w.heap.size w W → ∀ k (hk : k < rs.length), Ns W (.slice rs[k].a rs[k].m.length rs[k].c) rs[k].m) := fun W hb k hk => (hn _ (List.getElem_mem hk)).below hb
  obtain ⟨h0, a, cap, rfl, -, -⟩ := hr
  have HM : Hid (∀ k (hk : k < rs.length), ∃ n : Nat, rs[k].m = marksN (k0 + sumL (m.take k)) n ∧ sumL (m.take (k + 1)) = sumL (m.take k) + n ∧ sumL (m.take (k + 1)) ≤ 536870912) := fun k hk => by
    refine ⟨_, ?_, sumL_take m k (by omega), Nat.le_trans (sumL_le m (k + 1)) hl⟩
    have e1 : (rs.map Nst.m)[k]'(by simpa using hk) = (mkIntSS k0 m)[k]'(by rw [mkIntSS_len]; omega) := by simp only [hm]
    rw [List.getElem_map, mkIntSS_at k0 m k (by omega)] at e1
    exact e1
  have hcn : Hid (sumL (m.take rs.length) = sumL m) := by rw [Hid, List.take_of_length_le (by omega)]
  clear hn hm hl em
  go_enter Try.func58, Try.ntmps58
  go_wp2
  go_loopw [5, 1] (fun x y wr => ∃ (k K : Nat), x = .int .i64 (k : Int) ∧ y = .int .i64 (K : Int) ∧ k ≤ rs.length ∧ K ≤ 1073741824 ∧ Hid (K = k0 + sumL (m.take k)) ∧ Below w.heap.size w wr) (fun x _ _ => rs.length - (intOf x).toNat)
  case atStart => exact ⟨0, k0, rfl, rfl, Nat.zero_le _, by omega, rfl, Below.refl _ _⟩
  case round =>
    obtain ⟨k, K, rfl, rfl, hkk, hKb, hK, hb⟩ := hrel
    by_cases hlt : (k : Int) < (rs.length : Int)
    · have hkl : k < rs.length := by omega
      obtain ⟨b, off, rfl, hc⟩ := (dUnhide HV wr hb).ls hkl
      have c0 := hc k hkl
      obtain ⟨n, q1, q3, q4⟩ := dUnhide HM k hkl
      have N1 := dUnhide HN wr hb k hkl
      rw [q1, ← dUnhide hK] at N1 c0
      simp only [marksN_len] at N1 c0
      have CT := dHide fun W (hB : Below wr.heap.size wr W) => heldIntS_yes _ K n W (by omega) (by omega) (N1.below hB)
      have hK2 : Hid (K + n = k0 + sumL (m.take (k + 1))) := by rw [Hid, q3, dUnhide hK]; omega
      have hKb2 : K + n ≤ 1073741824 := by rw [dUnhide hK2]; omega
      generalize rs[k].a = ya at *
      generalize rs[k].c = yc at *
      generalize K + n = K' at *
      have hq0 : ¬ ((K' : Int) < 0) := by omega
      clear hc q1 q3 q4 N1
      go_wp2_with fail
      refine (dUnhide CT _ (Below.refl _ _)).mono ?_
      rintro r w2 ⟨rfl, b2⟩
      have hb2 := belowThen hb b2
      clear CT b2 hb c0
      go_wp2
      go_roundw
      case rel => exact ⟨k + 1, K', by go_num, rfl, by omega, hKb2, hK2, hb2⟩
      case measure => simp [intOf]; omega
    · have e1 : k = rs.length := by omega
      subst e1
      have e2 : Hid ((K : Int) = ((k0 + sumL m : Nat) : Int)) := by rw [Hid, dUnhide hK, dUnhide hcn]
      clear hK hcn HV HN HM
      go_wp2
      go_ret
      exact ⟨by have e := dUnhide e2; simp only [Int.natCast_add] at e; simp [e], hb⟩
end Go.Proofs.Ytaamipmlalplbaa
