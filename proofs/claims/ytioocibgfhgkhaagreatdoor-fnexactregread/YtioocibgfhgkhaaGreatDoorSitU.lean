/- Eras and registers, as the exact laws handle them: held. -/
import Derived.Test.YtioocibgfhgkhaaGreatDoorSitT
namespace Go.Proofs.YtioocibgfhgkhaaGreatDoor
open Go.ChangeShapes Go.WideShapes Go.ChangeAt Go.RowKit
set_option linter.unusedVariables false
set_option linter.unusedSimpArgs false
set_option maxRecDepth 100000

set_option maxHeartbeats 4000000 in
theorem heldEraS_ (v : Value) (m : List Er) (k0 : Nat) (w : World) (hk : k0 ≤ 536870912) (hl : cntEraS m ≤ 536870912) (h : RdEraS v (mkEraS k0 m) w) :
    Calls Tryz.prog 34 #[v, .int .i64 (k0 : Int)] w fun e w' => e = .returned (.int .i64 ((k0 + cntEraS m : Nat) : Int)) ∧ Below w.heap.size w w' := by
  obtain ⟨rs, hm, hr, hn⟩ := h
  have em : m.length = rs.length := by rw [← mkEraS_len k0 m, ← hm, List.length_map]
  have HV := dHide fun W (hb : Below w.heap.size w W) => hr.below hb
  have HN := dHide fun W (hb : Below w.heap.size w W) k (hk : k < rs.length) => (hn _ (List.getElem_mem hk)).below hb
  obtain ⟨h0, a, cap, rfl, -, -⟩ := hr
  have hlen : rs.length ≤ 268435456 := by unfold cntEraS at hl; omega
  have HM : Hid (∀ k (hk : k < rs.length), ∃ n : Nat, rs[k].m = mkEr (k0 + cntEraS (m.take k)) (m[k]'(by omega)) ∧ n = (m[k]'(by omega)).nodes.length ∧ cntEraS (m.take (k + 1)) = cntEraS (m.take k) + n + 2 ∧ cntEraS (m.take (k + 1)) ≤ 536870912) := fun k hk => by
    refine ⟨_, ?_, rfl, cntEraS_take m k (by omega), Nat.le_trans (cntEraS_le' m (k + 1)) hl⟩
    have e1 : (rs.map Nst.m)[k]'(by simpa using hk) = (mkEraS k0 m)[k]'(by rw [mkEraS_len]; omega) := by simp only [hm]
    rw [List.getElem_map, mkEraS_at k0 m k (by omega)] at e1
    exact e1
  have hcn : Hid (cntEraS (m.take rs.length) = cntEraS m) := by rw [Hid, List.take_of_length_le (by omega)]
  clear hn hm hl
  go_enter Tryz.func34, Tryz.ntmps34
  go_wp2
  go_loopw [5, 1] (fun x y wr => ∃ (k K : Nat), x = .int .i64 (k : Int) ∧ y = .int .i64 (K : Int) ∧ k ≤ rs.length ∧ K ≤ 1073741824 ∧ Hid (K = k0 + cntEraS (m.take k)) ∧ Below w.heap.size w wr) (fun x _ _ => rs.length - (intOf x).toNat)
  case atStart => exact ⟨0, k0, rfl, rfl, Nat.zero_le _, by omega, rfl, Below.refl _ _⟩
  case round =>
    obtain ⟨k, K, rfl, rfl, hkk, hKb, hK, hb⟩ := hrel
    by_cases hlt : (k : Int) < (rs.length : Int)
    · have hkl : k < rs.length := by omega
      obtain ⟨b, off, rfl, hc⟩ := (dUnhide HV wr hb).era hkl
      have E1 := hc k hkl
      obtain ⟨n, q1, q2, q3, q4⟩ := dUnhide HM k hkl
      have N1 := dUnhide HN wr hb k hkl
      rw [q1, ← dUnhide hK] at N1
      unfold ErAt at E1
      rw [q1, ← dUnhide hK] at E1
      unfold Sv at N1
      unfold mkEr at E1 N1
      rw [← q2] at E1 N1
      simp only [marksN_len] at E1 N1
      rw [q1] at N1
      unfold mkEr at N1
      simp only [marksN_len, ← q2] at N1
      have HE : Hid (∀ W, Below wr.heap.size wr W → W.cell? ⟨b, off + k * 3 + 1, none⟩ = some (.bool ((K + n) % 3 == 0)) ∧ W.cell? ⟨b, off + k * 3 + 2, none⟩ = some (.int .i64 ((K + n + 1 : Nat) : Int))) := fun W hB => ⟨(hB.cell (p := ⟨b, off + k * 3 + 1, none⟩) (dCell_lt E1.2.1)).trans E1.2.1, (hB.cell (p := ⟨b, off + k * 3 + 2, none⟩) (dCell_lt E1.2.2)).trans E1.2.2⟩
      have CT := dHide (heldIntS_yes _ K n wr (by omega) (by omega) N1)
      have c0 := E1.1
      have hK2 : Hid (K + n + 2 = k0 + cntEraS (m.take (k + 1))) := by rw [Hid, q3, dUnhide hK]; omega
      have hKb2 : K + n + 2 ≤ 1073741824 := by rw [dUnhide hK2]; omega
      have e3 : ((K + n + 1 : Nat) : Int) = ((K + n : Nat) : Int) + 1 := by omega
      have e4 : ((K + n + 2 : Nat) : Int) = ((K + n : Nat) : Int) + 1 + 1 := by omega
      have em3 := mod3_eq (K + n)
      rw [← em3, e3] at HE
      have G := dHide (show ∃ K' : Nat, (Value.int .i64 (((K + n : Nat) : Int) + 1 + 1)) = .int .i64 (K' : Int) ∧ K' ≤ 1073741824 ∧ Hid (K' = k0 + cntEraS (m.take (k + 1))) from ⟨K + n + 2, by rw [e4], hKb2, hK2⟩)
      have hq : (K + n : Nat) ≤ 1073741824 := by omega
      have hq0 : ¬ (((K + n : Nat) : Int) < 0) := by omega
      generalize (K + n : Nat) = q at *
      generalize rs[k].a = ya at *
      generalize rs[k].c = yc at *
      clear hc E1 q1 q2 q3 q4 N1 e3 e4 em3 hK2 hKb2 HN HM
      go_wp2_with fail
      refine (dUnhide CT).mono ?_
      rintro r w2 ⟨rfl, b2⟩
      obtain ⟨z1, z2⟩ := dUnhide HE w2 b2
      have hb2 := belowThen hb b2
      clear CT b2 c0 HE hb
      go_wp2
      go_roundw
      case rel =>
        obtain ⟨K', g2, g4, g5⟩ := dUnhide G
        exact ⟨k + 1, K', by go_num, by first | exact g2 | (rw [← g2]; go_num), by omega, g4, g5, hb2⟩
      case measure => simp [intOf]; omega
    · have e1 : k = rs.length := by omega
      subst e1
      have e2 : Hid ((K : Int) = ((k0 + cntEraS m : Nat) : Int)) := by rw [Hid, dUnhide hK, dUnhide hcn]
      clear hK hcn HV HN HM
      go_wp2
      go_ret
      exact ⟨by have e := dUnhide e2; simp only [Int.natCast_add] at e; simp [e], hb⟩
set_option maxHeartbeats 2000000 in
theorem heldRegister_ (v : Value) (m : Rg) (k0 : Nat) (w : World) (hk : k0 ≤ 536870912) (hl : cntRegister m ≤ 536870912) (h : RdRegister v (mkRegister k0 m) w) :
    Calls Tryz.prog 16 #[v, .int .i64 (k0 : Int)] w fun e w' => e = .returned (.int .i64 ((k0 + cntRegister m : Nat) : Int)) ∧ Below w.heap.size w w' := by
  have hb0 : ∀ o, Below w.heap.size w (w.alloc o) := fun o => (Below.refl _ _).alloc (Nat.le_refl _) o
  obtain ⟨sv, rfl, h⟩ := h
  have C1 := dHide fun W (hb : Below w.heap.size w W) => heldEraS_ sv m.eras k0 W hk hl (RdK.below h hb)
  obtain ⟨a, cap, rfl, -⟩ := formK h
  have e1 : ((k0 + cntRegister m : Nat) : Int) = ((k0 + cntEraS m.eras : Nat) : Int) := rfl
  rw [e1]
  have h1 : ¬ ((k0 + cntEraS m.eras : Nat) : Int) < 0 := by omega
  generalize ((k0 + cntEraS m.eras : Nat) : Int) = q at *
  generalize (mkRegister k0 m).trim = tr at *
  generalize (mkRegister k0 m).eras.length = n at *
  clear h e1 hk hl
  go_enter Tryz.func16, Tryz.ntmps16
  go_wp2_with fail
  refine (dUnhide C1 _ (hb0 _)).mono ?_
  rintro r w1 ⟨rfl, b1⟩
  have B1 := belowThen (hb0 _) b1
  clear C1 b1 hb0
  go_wp2
  go_ret
  exact ⟨rfl, B1⟩
end Go.Proofs.YtioocibgfhgkhaaGreatDoor
