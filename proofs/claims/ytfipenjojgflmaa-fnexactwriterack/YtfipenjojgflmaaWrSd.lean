/- Words and writers, as the exact laws handle them: held. -/
import Derived.Test.YtfipenjojgflmaaWrSc
namespace Go.Proofs.Ytfipenjojgflmaa
open Go.ChangeShapes Go.WideShapes Go.ChangeAt Go.RowKit
set_option linter.unusedVariables false
set_option linter.unusedSimpArgs false
set_option maxRecDepth 100000

set_option maxHeartbeats 4000000 in
theorem heldWordS_ (v : Value) (m : List Wd) (k0 : Nat) (w : World) (hk : k0 ≤ 536870912) (hl : cntWordS m ≤ 536870912) (h : RdWordS v (mkWordS k0 m) w) :
    Calls Try.prog 73 #[v, .int .i64 (k0 : Int)] w fun e w' => e = .returned (.int .i64 ((k0 + cntWordS m : Nat) : Int)) ∧ Below w.heap.size w w' := by
  obtain ⟨rs, hm, hr, hn⟩ := h
  have em : m.length = rs.length := by rw [← mkWordS_len k0 m, ← hm, List.length_map]
  have HV := dHide fun W (hb : Below w.heap.size w W) => hr.below hb
  have HN := dHide fun W (hb : Below w.heap.size w W) k (hk : k < rs.length) => (hn _ (List.getElem_mem hk)).below hb
  obtain ⟨h0, a, cap, rfl, -, -⟩ := hr
  have hlen : rs.length ≤ 268435456 := by unfold cntWordS at hl; omega
  have HM : Hid (∀ k (hk : k < rs.length), ∃ n : Nat, rs[k].m = mkWd (k0 + cntWordS (m.take k)) (m[k]'(by omega)) ∧ n = (m[k]'(by omega)).acks.length ∧ cntWordS (m.take (k + 1)) = cntWordS (m.take k) + n + 2 ∧ cntWordS (m.take (k + 1)) ≤ 536870912) := fun k hk => by
    refine ⟨_, ?_, rfl, cntWordS_take m k (by omega), Nat.le_trans (cntWordS_le' m (k + 1)) hl⟩
    have e1 : (rs.map Nst.m)[k]'(by simpa using hk) = (mkWordS k0 m)[k]'(by rw [mkWordS_len]; omega) := by simp only [hm]
    rw [List.getElem_map, mkWordS_at k0 m k (by omega)] at e1
    exact e1
  have hcn : Hid (cntWordS (m.take rs.length) = cntWordS m) := by rw [Hid, List.take_of_length_le (by omega)]
  clear hn hm hl
  go_enter Try.func73, Try.ntmps73
  go_wp2
  go_loopw [5, 1] (fun x y wr => ∃ (k K : Nat), x = .int .i64 (k : Int) ∧ y = .int .i64 (K : Int) ∧ k ≤ rs.length ∧ K ≤ 1073741824 ∧ Hid (K = k0 + cntWordS (m.take k)) ∧ Below w.heap.size w wr) (fun x _ _ => rs.length - (intOf x).toNat)
  case atStart => exact ⟨0, k0, rfl, rfl, Nat.zero_le _, by omega, rfl, Below.refl _ _⟩
  case round =>
    obtain ⟨k, K, rfl, rfl, hkk, hKb, hK, hb⟩ := hrel
    by_cases hlt : (k : Int) < (rs.length : Int)
    · have hkl : k < rs.length := by omega
      obtain ⟨b, off, rfl, hc⟩ := (dUnhide HV wr hb).word hkl
      have E1 := hc k hkl
      obtain ⟨n, q1, q2, q3, q4⟩ := dUnhide HM k hkl
      have N1 := dUnhide HN wr hb k hkl
      rw [q1, ← dUnhide hK] at N1
      unfold WdAt at E1
      rw [q1, ← dUnhide hK] at E1
      unfold Sv at N1
      unfold mkWd at E1 N1
      rw [← q2] at E1 N1
      simp only [marksN_len] at E1 N1
      rw [q1] at N1
      unfold mkWd at N1
      simp only [marksN_len, ← q2] at N1
      have HE : Hid (∀ W, Below wr.heap.size wr W → W.cell? ⟨b, off + k * 3, none⟩ = some (.string (markU K)) ∧ W.cell? ⟨b, off + k * 3 + 1, none⟩ = some (.slice rs[k].a n rs[k].c) ∧ W.cell? ⟨b, off + k * 3 + 2, none⟩ = some (.bool ((K + 1 + n) % 3 == 0))) := fun W hB => ⟨(hB.cell (p := ⟨b, off + k * 3, none⟩) (dCell_lt E1.1)).trans E1.1, (hB.cell (p := ⟨b, off + k * 3 + 1, none⟩) (dCell_lt E1.2.1)).trans E1.2.1, (hB.cell (p := ⟨b, off + k * 3 + 2, none⟩) (dCell_lt E1.2.2)).trans E1.2.2⟩
      have CX := dHide fun W => markText_all K (by omega) W
      have CT := dHide fun W (hB : Below wr.heap.size wr W) => heldIntS_yes _ (K + 1) n W (by omega) (by omega) (N1.below hB)
      have hK2 : Hid (K + n + 2 = k0 + cntWordS (m.take (k + 1))) := by rw [Hid, q3, dUnhide hK]; omega
      have hKb2 : K + n + 2 ≤ 1073741824 := by rw [dUnhide hK2]; omega
      have e4 : ((K + n + 2 : Nat) : Int) = ((K + 1 + n : Nat) : Int) + 1 := by omega
      have em3 := mod3_eq (K + 1 + n)
      rw [← em3] at HE
      have eK1 : ((K + 1 : Nat) : Int) = (K : Int) + 1 := by omega
      rw [eK1] at CT
      have G := dHide (show ∃ K' : Nat, (Value.int .i64 (((K + 1 + n : Nat) : Int) + 1)) = .int .i64 (K' : Int) ∧ K' ≤ 1073741824 ∧ Hid (K' = k0 + cntWordS (m.take (k + 1))) from ⟨K + n + 2, by rw [e4], hKb2, hK2⟩)
      have hq : (K + 1 + n : Nat) ≤ 1073741824 := by omega
      have hq0 : ¬ (((K + 1 + n : Nat) : Int) < 0) := by omega
      generalize (K + 1 + n : Nat) = q at *
      generalize rs[k].a = ya at *
      generalize rs[k].c = yc at *
      generalize markU K = MU at *
      have bd : Below wr.heap.size wr wr.drew := (Below.refl _ _).drew
      have p0 := dUnhide HE wr (Below.refl _ _)
      clear hc E1 q1 q2 q3 q4 N1 e4 em3 hK2 hKb2 HN HM eK1
      go_wp2_with fail
      go_region_held3 (fun W => W.cell? ⟨b, off + k * 3, none⟩ = some (.string MU) ∧ W.cell? ⟨b, off + k * 3 + 1, none⟩ = some (.slice ya n yc) ∧ W.cell? ⟨b, off + k * 3 + 2, none⟩ = some (.bool ((q : Int) % 3 == 0))) (first | exact p5 | exact p0 | exact dUnhide HE _ bd | go_keep)
        (first
          | (go_at_call 95; refine (dUnhide CX _).mono ?_; rintro r w5 ⟨rfl, b5⟩; have hb5 := belowThen bd b5; have p5 := dUnhide HE _ hb5))
      all_goals
        obtain ⟨-, z1, z2⟩ := p5
        have CT1 := dHide (dUnhide CT w5 hb5)
        clear CT CX
        go_wp2_with fail
        refine (dUnhide CT1).mono ?_
        rintro r w2 ⟨rfl, b2⟩
        have hbb := belowThen hb5 b2
        obtain ⟨-, y1, y2⟩ := dUnhide HE w2 hbb
        have hb2 := belowThen hb hbb
        clear CT1 b2 HE hb z1 z2 hb5 hbb p0
        go_wp2
        go_roundw
        case rel =>
          obtain ⟨K', g2, g4, g5⟩ := dUnhide G
          exact ⟨k + 1, K', by go_num, by first | exact g2 | (rw [← g2]; go_num), by omega, g4, g5, hb2⟩
        case measure => simp [intOf]; omega
    · have e1 : k = rs.length := by omega
      subst e1
      have e2 : Hid ((K : Int) = ((k0 + cntWordS m : Nat) : Int)) := by rw [Hid, dUnhide hK, dUnhide hcn]
      clear hK hcn HV HN HM
      go_wp2
      go_ret
      exact ⟨by have e := dUnhide e2; simp only [Int.natCast_add] at e; simp [e], hb⟩
set_option maxHeartbeats 2000000 in
theorem heldWriter_ (v : Value) (m : Wt) (k0 : Nat) (w : World) (hk : k0 ≤ 536870912) (hl : cntWriter m ≤ 536870912) (h : RdWriter v (mkWriter k0 m) w) :
    Calls Try.prog 38 #[v, .int .i64 (k0 : Int)] w fun e w' => e = .returned (.int .i64 ((k0 + cntWriter m : Nat) : Int)) ∧ Below w.heap.size w w' := by
  have hb0 : ∀ o, Below w.heap.size w (w.alloc o) := fun o => (Below.refl _ _).alloc (Nat.le_refl _) o
  obtain ⟨sv, rfl, h⟩ := h
  have C1 := dHide fun W (hb : Below w.heap.size w W) => heldWordS_ sv m.words k0 W hk hl (RdK.below h hb)
  obtain ⟨a, cap, rfl, -⟩ := formK h
  have e1 : ((k0 + cntWriter m : Nat) : Int) = ((k0 + cntWordS m.words : Nat) : Int) := rfl
  rw [e1]
  have h1 : ¬ ((k0 + cntWordS m.words : Nat) : Int) < 0 := by omega
  generalize ((k0 + cntWordS m.words : Nat) : Int) = q at *
  generalize (mkWriter k0 m).epoch = tr at *
  generalize (mkWriter k0 m).words.length = n at *
  clear h e1 hk hl
  go_enter Try.func38, Try.ntmps38
  go_wp2_with fail
  refine (dUnhide C1 _ (hb0 _)).mono ?_
  rintro r w1 ⟨rfl, b1⟩
  have B1 := belowThen (hb0 _) b1
  clear C1 b1 hb0
  go_wp2
  go_ret
  exact ⟨rfl, B1⟩
end Go.Proofs.Ytfipenjojgflmaa
