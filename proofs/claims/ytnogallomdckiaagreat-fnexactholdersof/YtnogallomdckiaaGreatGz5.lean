/- Several texts in one: MnSc, SeM. -/
import Derived.Test.YtnogallomdckiaaGreatMnSb
import Derived.Test.YtnogallomdckiaaGreatGz19
namespace Go.Proofs.YtnogallomdckiaaGreat
open Go.ChangeShapes Go.WideShapes Go.ChangeAt Go.RowKit
set_option linter.unusedSimpArgs false
set_option linter.unusedVariables false
set_option maxRecDepth 100000
def mkL (k0 : Nat) (rs : List (Nst (List Int))) (i : Nat) : Nst (List Int) := ⟨(rs.getD i zeroL).a, (rs.getD i zeroL).c, marksN (k0 + sumL ((rs.map Nst.m).take i)) (rs.getD i zeroL).m.length⟩
def mkLs (k0 : Nat) (rs : List (Nst (List Int))) : List (Nst (List Int)) := (List.range rs.length).map (mkL k0 rs)
theorem mkLs_len (k0 : Nat) (rs : List (Nst (List Int))) : (mkLs k0 rs).length = rs.length := by simp [mkLs]
theorem mkLs_at (k0 : Nat) (rs : List (Nst (List Int))) (i : Nat) (h : i < rs.length) (h' : i < (mkLs k0 rs).length) : (mkLs k0 rs)[i] = ⟨rs[i].a, rs[i].c, marksN (k0 + sumL ((rs.map Nst.m).take i)) rs[i].m.length⟩ := by
 simp [mkLs, mkL, h]
def MarkL (lo hi k0 : Nat) (w wr : World) (rs : List (Nst (List Int))) (k : Nat) : Prop :=
 (∀ i (h : i < rs.length), OwN lo hi (Sv idL rs[i]) (if i < k then marksN (k0 + sumL ((rs.map Nst.m).take i)) rs[i].m.length else rs[i].m) wr) ∧ Wr lo hi w wr ∧ (∀ j, j < w.heap.size → (∀ p ∈ rs, p.m = [] ∨ bO (Sv idL p) ≠ j) → wr.heap[j]? = w.heap[j]?) ∧ hi ≤ wr.heap.size
theorem MarkL.step {lo hi k0 : Nat} {w wr w2 : World} {k : Nat} {rs : List (Nst (List Int))} {v : Value} (h : MarkL lo hi k0 w wr rs k) (hk : k < rs.length) (hA : Apart idL v rs)
  (hO : OwN lo hi (Sv idL rs[k]) (marksN (k0 + sumL ((rs.map Nst.m).take k)) rs[k].m.length) w2) (b1 b2 : Nat) (hW : Wr b1 b2 wr w2) (hd : (rs[k].m = [] ∧ b1 = 0 ∧ b2 = 0) ∨ (rs[k].m ≠ [] ∧ b1 = bO (Sv idL rs[k]) ∧ b2 = bO (Sv idL rs[k]) + 1)) (hW' : Wr lo hi wr w2) :
  MarkL lo hi k0 w w2 rs (k + 1) := by
 obtain ⟨h1, h2, h3, h4⟩ := h
 refine ⟨fun i hil => ?_, h2.trans hW', fun j hj hp => ?_, Nat.le_trans h4 hW'.size⟩
 ·by_cases e : i = k
  ·subst e
   rw [if_pos (by omega)]
   exact hO
  ·have ei : (if i < k + 1 then marksN (k0 + sumL ((rs.map Nst.m).take i)) rs[i].m.length else rs[i].m) = (if i < k then marksN (k0 + sumL ((rs.map Nst.m).take i)) rs[i].m.length else rs[i].m) := by
    by_cases e' : i < k
    ·rw [if_pos (by omega), if_pos e']
    ·rw [if_neg (by omega), if_neg e']
   rw [ei]
   refine (h1 i hil).wr hW ?_
   rcases hd with ⟨-, rfl, rfl⟩ | ⟨hn, rfl, rfl⟩
   ·exact .inr (.inr (Nat.zero_le _))
   ·rcases hA.1 i k hil hk e with h | h | h
    ·left
     change rs[i].m = [] at h
     rw [h]
     split
     ·rfl
     ·rfl
    ·exact absurd h hn
    ·exact .inr (by omega)
 ·rw [← h3 j hj hp]
  refine hW.block j (Nat.lt_of_lt_of_le hj h2.size) ?_
  rcases hd with ⟨-, rfl, rfl⟩ | ⟨hn, rfl, rfl⟩
  ·exact .inr (Nat.zero_le _)
  ·have := (hp _ (List.getElem_mem hk)).resolve_left hn
   omega
set_option maxHeartbeats 4000000 in
theorem markIntSS_in (lo hi : Nat) (v : Value) (rs : List (Nst (List Int))) (k0 : Nat) (w : World) (hk : k0 ≤ 536870912) (hl : sumL (rs.map Nst.m) ≤ 536870912) (hll : rs.length ≤ 9223372036854775807) (hf : hi ≤ w.heap.size) (h : OwL lo hi v rs w) :
  Calls Tryz.prog 249 #[v, .int .i64 (k0 : Int)] w fun e w' => e = .returned (.int .i64 ((k0 + sumL (rs.map Nst.m) : Nat) : Int)) ∧ OwL lo hi v (mkLs k0 rs) w' ∧ (∀ j, j < w.heap.size → (∀ p ∈ rs, p.m = [] ∨ bO (Sv idL p) ≠ j) → w'.heap[j]? = w.heap[j]?) ∧ Wr lo hi w w' := by
 have hO0 := h
 obtain ⟨hO, hB, hN, hA⟩ := h
 have HV : Hid (∀ W, (∀ j, j < w.heap.size → (∀ p ∈ rs, p.m = [] ∨ bO (Sv idL p) ≠ j) → W.heap[j]? = w.heap[j]?) → OwnRw 1 lsCl W lo v rs) := fun W hW => by
  have hlt := hO.ltG lsCl_len (by decide)
  obtain ⟨h0, a, cap, rfl, hcap, h⟩ := hO
  refine ⟨h0, a, cap, rfl, hcap, ?_⟩
  rcases h with h | ⟨b, off, rfl, hb', hc⟩
  ·exact .inl h
  ·rcases hlt with h | hlt
   ·exact .inl h
   ·have e := hW b hlt (fun p hp => by
     obtain ⟨i, hi, rfl⟩ := List.mem_iff_getElem.1 hp
     exact hA.2 i hi)
    exact .inr ⟨b, off, rfl, hb', fun i hi j u hu => ⟨(World.cell?_of_block (a := ⟨b, off + i * 1 + j, none⟩) e).trans (hc i hi j u hu).1, (World.frozen?_of_block (a := ⟨b, off + i * 1 + j, none⟩) e).trans (hc i hi j u hu).2⟩⟩
 obtain ⟨-, a, cap, rfl, hcap, -⟩ := hO.rw
 have HS : Hid (∀ k (hk : k < rs.length), rs[k].m.length ≤ 536870912 ∧ sumL ((rs.map Nst.m).take (k + 1)) = sumL ((rs.map Nst.m).take k) + rs[k].m.length ∧ sumL ((rs.map Nst.m).take (k + 1)) ≤ 536870912) := fun k hk => by
  have h1 := sumL_take (rs.map Nst.m) k (by simpa using hk)
  have h2 := sumL_le (rs.map Nst.m) (k + 1)
  rw [List.getElem_map] at h1
  exact ⟨by omega, h1, by omega⟩
 have HM0 : Hid (MarkL lo hi k0 w w rs 0) := ⟨fun i hi => by rw [if_neg (by omega)]; exact hN _ (List.getElem_mem hi), Wr.refl _ _ _, fun _ _ _ => rfl, hf⟩
 have FIN : Hid (∀ W : World, MarkL lo hi k0 w W rs rs.length → OwL lo hi (.slice a rs.length cap) (mkLs k0 rs) W) := fun W ⟨h1, h2, h3, h4⟩ => by
  have o := dU HV W h3
  refine ⟨?_, ?_, fun p hp => ?_, fun i j hi hj hij => ?_, fun i hi => ?_⟩
  ·obtain ⟨q0, a', cap', e, qc, q⟩ := o
   refine ⟨by rw [mkLs_len]; exact q0, a', cap', by rw [mkLs_len]; exact e, by rw [mkLs_len]; exact qc, ?_⟩
   rcases q with q | ⟨b, off, e1, hb', hc⟩
   ·left; subst q; rfl
   ·refine .inr ⟨b, off, e1, hb', fun i hi j u hu => hc i (by rw [mkLs_len] at hi; exact hi) j u ?_⟩
    rw [mkLs_at k0 rs i (by rw [mkLs_len] at hi; exact hi)] at hu
    unfold lsCl at hu ⊢
    simpa only [marksN_len] using hu
  ·rcases hB with h | h
   ·left; subst h; rfl
   ·exact .inr h
  ·obtain ⟨i, hi, rfl⟩ := List.mem_iff_getElem.1 hp
   have hi' : i < rs.length := by rw [mkLs_len] at hi; exact hi
   have q := h1 i hi'
   rw [if_pos hi'] at q
   rw [mkLs_at k0 rs i hi', sv_mk]
   exact q
  ·rw [mkLs_len] at hi hj
   rw [mkLs_at k0 rs i hi, mkLs_at k0 rs j hj, sv_mk, sv_mk]
   rcases hA.1 i j hi hj hij with h | h | h
   ·exact .inl ((nil_of_len (marksN_len _ _)).2 h)
   ·exact .inr (.inl ((nil_of_len (marksN_len _ _)).2 h))
   ·exact .inr (.inr h)
  ·rw [mkLs_len] at hi
   rw [mkLs_at k0 rs i hi, sv_mk]
   rcases hA.2 i hi with h | h
   ·exact .inl ((nil_of_len (marksN_len _ _)).2 h)
   ·exact .inr h
 have HA := dH hA
 have hcn : Hid (sumL ((rs.map Nst.m).take rs.length) = sumL (rs.map Nst.m)) := by rw [Hid, List.take_of_length_le (by simp)]
 clear hO hB hN hA hl hO0
 go_enter Tryz.func249, Tryz.ntmps249
 go_wp2
 go_loopw [5, 1] (fun x y wr => ∃ (k K : Nat), x = .int .i64 (k : Int) ∧ y = .int .i64 (K : Int) ∧ k ≤ rs.length ∧ K ≤ 1073741824 ∧ Hid (K = k0 + sumL ((rs.map Nst.m).take k)) ∧ Hid (MarkL lo hi k0 w wr rs k)) (fun x _ _ => rs.length - (intOf x).toNat)
 case atStart => exact ⟨0, k0, rfl, rfl, Nat.zero_le _, by omega, rfl, dU HM0⟩
 case round =>
  obtain ⟨k, K, rfl, rfl, hkk, hKb, hK, hM⟩ := hrel
  by_cases hlt : (k : Int) < (rs.length : Int)
  ·have hkl : k < rs.length := by omega
   obtain ⟨s1, s2, s3⟩ := dU HS k hkl
   have hrow := dU HV wr (dU hM).2.2.1
   obtain ⟨b, off, rfl, hc⟩ := hrow.rw.ls hkl
   have c0 := hc k hkl
   have CT : Hid (Calls Tryz.prog 46 #[Sv idL rs[k], .int .i64 (K : Int)] wr fun e w' => e = .returned (.int .i64 ((K + rs[k].m.length : Nat) : Int)) ∧ OwN lo hi (Sv idL rs[k]) (marksN K rs[k].m.length) w' ∧ (∃ b1 b2, Wr b1 b2 wr w' ∧ ((rs[k].m = [] ∧ b1 = 0 ∧ b2 = 0) ∨ (rs[k].m ≠ [] ∧ b1 = bO (Sv idL rs[k]) ∧ b2 = bO (Sv idL rs[k]) + 1))) ∧ Wr lo hi wr w') := by
    have q := (dU hM).1 k hkl
    rw [if_neg (by omega)] at q
    exact markN_in lo hi (Sv idL rs[k]) rs[k].m K wr (by omega) (by omega) (dU hM).2.2.2 q
   have ST : Hid (∀ w2, OwN lo hi (Sv idL rs[k]) (marksN K rs[k].m.length) w2 → ∀ b1 b2, Wr b1 b2 wr w2 → ((rs[k].m = [] ∧ b1 = 0 ∧ b2 = 0) ∨ (rs[k].m ≠ [] ∧ b1 = bO (Sv idL rs[k]) ∧ b2 = bO (Sv idL rs[k]) + 1)) → Wr lo hi wr w2 → MarkL lo hi k0 w w2 rs (k + 1)) := fun w2 hO b1 b2 hW hd hW' => by
    have hK' := dU hK
    subst hK'
    exact (dU hM).step hkl (dU HA) hO b1 b2 hW hd hW'
   have hK2 : Hid (K + rs[k].m.length = k0 + sumL ((rs.map Nst.m).take (k + 1))) := by rw [Hid, s2, dU hK]; omega
   have hKb2 : K + rs[k].m.length ≤ 1073741824 := by rw [dU hK2]; omega
   rw [sv_id] at CT ST
   generalize hy : rs[k] = y at *
   obtain ⟨ya, yc, yn⟩ := y
   simp only at *
   clear hM s1 s2 s3 hrow hc
   go_wp2_with fail
   refine (dU CT).mono ?_
   rintro r w2 ⟨rfl, o2, ⟨d1, d2, d3, hd1⟩, d4⟩
   have HM2 := dH (dU ST w2 o2 d1 d2 d3 hd1 d4)
   clear CT ST o2 d1 hd1 d3 d4 c0
   generalize K + yn.length = K' at *
   go_wp2
   go_roundw
   case rel => exact ⟨k + 1, K', by go_num, rfl, by omega, hKb2, hK2, dU HM2⟩
   case measure => simp [intOf]; omega
  ·have e1 : k = rs.length := by omega
   subst e1
   have e2 : Hid ((K : Int) = ((k0 + sumL (rs.map Nst.m) : Nat) : Int)) := by rw [Hid, dU hK, dU hcn]
   have O := dH (dU FIN wr (dU hM))
   have hw := dH (dU hM).2.1
   have hj := dH (dU hM).2.2.1
   clear hM hK FIN HM0 hcn HV
   go_wp2
   go_ret
   exact ⟨by have e := dU e2; simp only [Int.natCast_add] at e; simp [e], dU O, dU hj, dU hw⟩
set_option maxHeartbeats 4000000 in
theorem markSentS_w (lo hi : Nat) (v : Value) (m : List Se) (k0 : Nat) (w : World) (hk : k0 ≤ 134217728) (hl : cntSentS m ≤ 134217728) (hf : hi ≤ w.heap.size) (h : OwSentS lo hi v m w) :
  Calls Tryz.prog 148 #[v, .int .i64 (k0 : Int)] w fun e w' => e = .returned (.int .i64 ((k0 + cntSentS m : Nat) : Int)) ∧ Wr lo hi w w' := by
 obtain ⟨hown, hlt⟩ := h
 obtain ⟨a, cap, rfl, -⟩ := formSentS (OwnRw.rw hown)
 have hlen : m.length ≤ 134217728 := by unfold cntSentS at hl; omega
 have hcn : Hid (k0 + cntSentS m = k0 + 3 * m.length) := rfl
 by_cases hm : m.length = 0
 ·obtain rfl : m = [] := List.length_eq_zero_iff.1 hm
  clear hown hlt hm
  simp only [List.length_nil] at *
  go_enter Tryz.func148, Tryz.ntmps148
  go_wp2
  go_rounds 1
  go_ret
  exact ⟨by simp [cntSentS], Wr.refl _ _ _⟩
 ·obtain ⟨b, off, rfl, hb1, hz0⟩ := hown.rwZ zeroSe (by omega)
  have hb2 : b < hi := by
   rcases hlt with h | h
   ·exact absurd (by rw [h]; rfl) hm
   ·exact h
  have HZ0 := dH hz0
  clear hown hlt hz0 hm
  go_enter Tryz.func148, Tryz.ntmps148
  go_wp2
  go_loopw [5, 1] (fun x y wr => ∃ (k K : Nat), ∃ f : Nat → Se, x = .int .i64 (k : Int) ∧ y = .int .i64 (K : Int) ∧ k ≤ m.length ∧ Hid (K = k0 + 3 * k) ∧ Hid (RwZ 3 Se.cl wr b off m.length f) ∧ Hid (Wr lo hi w wr)) (fun x _ _ => m.length - (intOf x).toNat)
  case atStart => exact ⟨0, k0, _, rfl, rfl, Nat.zero_le _, rfl, dU HZ0, Wr.refl _ _ _⟩
  case round =>
   obtain ⟨k, K, f, rfl, rfl, hkk, hK, hz, hw⟩ := hrel
   by_cases hlt : (k : Int) < (m.length : Int)
   ·have hkl : k < m.length := by omega
    have hKb : K ≤ 8589934592 := by have := dU hK; omega
    have hKb2 : K ≤ 2147483648 := by have := dU hK; omega
    obtain ⟨z0, f0⟩ := (dU hz) k hkl 0 _ rfl
    simp only [Nat.add_zero] at z0 f0
    have CT := dH fun W => markText_any (K + 1) (by omega) (by omega) W
    have e3 : ((K + 1 : Nat) : Int) = (K : Int) + 1 := by omega
    rw [e3] at CT
    have Z0x := (dU hz).cell Se.cl_len hkl 0 (by decide) (.int .i64 (K : Int)) ⟨(K : Int), (f k).data, (f k).sure⟩ (by rfl)
    simp only [Nat.add_zero] at Z0x
    have HZ3 := dH Z0x
    have HW3 := dH ((dU hw).setSe (o := off + k * 3) hb1 hb2 (.int .i64 (K : Int)))
    clear e3 Z0x hz hw
    go_wp2_with fail
    generalize wr.setCell ⟨b, off + k * 3, none⟩ (.int .i64 (K : Int)) = V at *
    refine (dU CT _).mono ?_
    rintro r w2 ⟨rfl, b2⟩
    have Z4 := (dU HZ3).below b2
    obtain ⟨z1, f1⟩ := Z4 k hkl 1 _ rfl
    obtain ⟨z2, f2⟩ := Z4 k hkl 2 _ rfl
    have Z5 := Z4.cell Se.cl_len hkl 1 (by decide) (.string (markT (K + 1))) ⟨(K : Int), markT (K + 1), (f k).sure⟩ (by simp only [putZ_same]; rfl)
    obtain ⟨z3, f3⟩ := Z5 k hkl 2 _ rfl
    have Z6 := Z5.cell Se.cl_len hkl 2 (by decide) (.bool (((K : Int) + 1 + 1) % 3 == 0)) ⟨(K : Int), markT (K + 1), (((K : Int) + 1 + 1) % 3 == 0)⟩ (by simp only [putZ_same]; rfl)
    have HZ6 := dH Z6
    have W6 := dH ((((dU HW3).trans (Wr.of_below b2)).setSe (o := off + k * 3 + 1) hb1 hb2 (.string (markT (K + 1)))).setSe (o := off + k * 3 + 2) hb1 hb2 (.bool (((K : Int) + 1 + 1) % 3 == 0)))
    have hK2 : Hid (K + 3 = k0 + 3 * (k + 1)) := by rw [Hid, dU hK]; omega
    simp only [putZ_same] at z1 z2 z3
    clear CT b2 Z4 Z5 Z6 HZ3 HW3 z0 f0 hK
    generalize markT (K + 1) = MT at *
    go_wp2
    go_roundw
    case rel => exact ⟨k + 1, K + 3, _, by go_num, by go_num, by omega, hK2, dU HZ6, dU W6⟩
    case measure => simp [intOf]; omega
   ·have e1 : k = m.length := by omega
    have e2 : Hid ((K : Int) = ((k0 + cntSentS m : Nat) : Int)) := by rw [Hid, dU hK, dU hcn, e1]
    clear hz hK HZ0 hcn
    go_wp2
    go_ret
    exact ⟨by have e := dU e2; simp only [Int.natCast_add] at e; simp [e], dU hw⟩
end Go.Proofs.YtnogallomdckiaaGreat
