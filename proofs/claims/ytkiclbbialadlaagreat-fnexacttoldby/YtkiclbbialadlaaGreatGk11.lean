/- Several texts in one: SeH, WrSc, SeM. -/
import Derived.Test.YtkiclbbialadlaaGreatGz19
import Derived.Test.YtkiclbbialadlaaGreatGk10
namespace Go.Proofs.YtkiclbbialadlaaGreat
open Go.ChangeShapes Go.WideShapes Go.ChangeAt Go.RowKit
set_option linter.unusedSimpArgs false
set_option linter.unusedVariables false
set_option maxRecDepth 100000
set_option maxHeartbeats 4000000 in
theorem markSentS_ (lo hi : Nat) (v : Value) (m : List Se) (k0 : Nat) (w : World) (hk : k0 ≤ 1073741824) (hl : cntSentS m ≤ 1073741824) (h : Sits (OwSentS lo hi v m) lo hi w) :
  Calls Tryz.prog 13 #[v, .int .i64 (k0 : Int)] w fun e w' => e = .returned (.int .i64 ((k0 + cntSentS m : Nat) : Int)) ∧ Sits (OwSentS lo hi v (mkSentS k0 m)) lo hi w' ∧ Wr lo hi w w' := by
 have hfit := h.fit
 obtain ⟨hown, hlt⟩ := h.now
 obtain ⟨a, cap, rfl, -⟩ := formSentS (OwnRw.rw hown)
 have hlen : m.length ≤ 1073741824 := by unfold cntSentS at hl; omega
 have hcn : Hid (k0 + cntSentS m = k0 + 3 * m.length) := rfl
 have hcap : m.length ≤ cap ∧ cap ≤ 9223372036854775807 := by obtain ⟨-, a', c', e, hc, -⟩ := hown; cases e; exact hc
 by_cases hm : m.length = 0
 ·obtain rfl : m = [] := List.length_eq_zero_iff.1 hm
  have S : Hid (Sits (OwSentS lo hi (.slice a ([] : List Se).length cap) (mkSentS k0 [])) lo hi w) := h
  clear h hown hlt hm
  simp only [List.length_nil] at *
  go_enter Tryz.func13, Tryz.ntmps13
  go_wp2
  go_loopw [5, 1] (fun x y wr => x = .int .i64 0 ∧ y = .int .i64 (k0 : Int) ∧ wr = w) (fun _ _ _ => 0)
  case atStart => exact ⟨rfl, rfl, rfl⟩
  case round =>
   obtain ⟨rfl, rfl, rfl⟩ := hrel
   go_wp2
   go_ret
   exact ⟨by simp [cntSentS], dU S, Wr.refl _ _ _⟩
 ·obtain ⟨b, off, rfl, hb1, hz0⟩ := hown.rwZ zeroSe (by omega)
  have hb2 : b < hi := by
   rcases hlt with h | h
   ·exact absurd (by rw [h]; rfl) hm
   ·exact h
  have FIN : Hid (∀ (W : World) (f : Nat → Se), RwZ 3 Se.cl W b off m.length f → (∀ i, i < m.length → f i = mkSe (k0 + 3 * i)) → hi ≤ W.heap.size → Sits (OwSentS lo hi (.slice (some ⟨b, off, none⟩) m.length cap) (mkSentS k0 m)) lo hi W) := fun W f hf he hW => by
   have o := hf.own (es := mkSentS k0 m) (cap := cap) (base := lo) (mkSentS_len k0 m).symm (fun i hi => by rw [mkSentS_at]; exact he i (by rw [mkSentS_len] at hi; exact hi)) hb1 (by rw [mkSentS_len]; omega) (by rw [mkSentS_len]; exact hcap)
   rw [mkSentS_len] at o
   exact OwG.sits ⟨o, .inr hb2⟩ hW
  have HZ0 := dH hz0
  clear h hown hlt hz0 hm
  go_enter Tryz.func13, Tryz.ntmps13
  go_wp2
  go_loopw [5, 1] (fun x y wr => ∃ (k K : Nat) (f : Nat → Se), x = .int .i64 (k : Int) ∧ y = .int .i64 (K : Int) ∧ k ≤ m.length ∧ Hid (K = k0 + 3 * k) ∧ Hid (RwZ 3 Se.cl wr b off m.length f ∧ ∀ i, i < k → f i = mkSe (k0 + 3 * i)) ∧ Hid (Wr lo hi w wr) ∧ hi ≤ wr.heap.size) (fun x _ _ => m.length - (intOf x).toNat)
  case atStart => exact ⟨0, k0, _, rfl, rfl, Nat.zero_le _, rfl, ⟨dU HZ0, fun i h => by omega⟩, Wr.refl _ _ _, hfit⟩
  case round =>
   obtain ⟨k, K, f, rfl, rfl, hkk, hK, hz, hw, hhi⟩ := hrel
   by_cases hlt : (k : Int) < (m.length : Int)
   ·have hkl : k < m.length := by omega
    have hKb : K ≤ 8589934592 := by have := dU hK; unfold cntSentS at hl; omega
    have hKb2 : K ≤ 2147483648 := by have := dU hK; unfold cntSentS at hl; omega
    obtain ⟨z0, f0⟩ := (dU hz).1 k hkl 0 _ rfl
    obtain ⟨z1, f1⟩ := (dU hz).1 k hkl 1 _ rfl
    obtain ⟨z2, f2⟩ := (dU hz).1 k hkl 2 _ rfl
    simp only [Nat.add_zero] at z0 f0
    have CT := dH fun W => markText_any (K + 1) (by omega) (by omega) W
    have e3 : ((K + 1 : Nat) : Int) = (K : Int) + 1 := by omega
    rw [e3] at CT
    have Z0x := (dU hz).1.cell Se.cl_len hkl 0 (by decide) (.int .i64 (K : Int)) ⟨(K : Int), (f k).data, (f k).sure⟩ (by rfl)
    simp only [Nat.add_zero] at Z0x
    have HZ3 := dH Z0x
    have HW3 := dH ((dU hw).setSe (o := off + k * 3) hb1 hb2 (.int .i64 (K : Int)))
    have s3 : hi ≤ (wr.setCell ⟨b, off + k * 3, none⟩ (.int .i64 (K : Int))).heap.size := by simpa using hhi
    have HF : Hid (∀ i, i < k → f i = mkSe (k0 + 3 * i)) := (dU hz).2
    clear e3 Z0x hz hw
    go_wp2_with fail
    generalize wr.setCell ⟨b, off + k * 3, none⟩ (.int .i64 (K : Int)) = V at *
    refine (dU CT _).mono ?_
    rintro r w2 ⟨rfl, b2⟩
    have Z4 := (dU HZ3).below b2
    obtain ⟨z1', f1'⟩ := Z4 k hkl 1 _ rfl
    have Z5 := Z4.cell Se.cl_len hkl 1 (by decide) (.string (markT (K + 1))) ⟨(K : Int), markT (K + 1), (f k).sure⟩ (by simp only [putZ_same]; rfl)
    rw [putZ_twice] at Z5
    obtain ⟨z2', f2'⟩ := Z5 k hkl 2 _ rfl
    have Z6 := Z5.cell Se.cl_len hkl 2 (by decide) (.bool (((K : Int) + 1 + 1) % 3 == 0)) ⟨(K : Int), markT (K + 1), (((K : Int) + 1 + 1) % 3 == 0)⟩ (by simp only [putZ_same]; rfl)
    rw [putZ_twice] at Z6
    have W6 := dH ((((dU HW3).trans (Wr.of_below b2)).setSe (o := off + k * 3 + 1) hb1 hb2 (.string (markT (K + 1)))).setSe (o := off + k * 3 + 2) hb1 hb2 (.bool (((K : Int) + 1 + 1) % 3 == 0)))
    have s5 : hi ≤ w2.heap.size := Nat.le_trans s3 b2.size
    have HZ6 : Hid (RwZ 3 Se.cl ((w2.setCell ⟨b, off + k * 3 + 1, none⟩ (.string (markT (K + 1)))).setCell ⟨b, off + k * 3 + 2, none⟩ (.bool (((K : Int) + 1 + 1) % 3 == 0))) b off m.length (putZ f k (mkSe (k0 + 3 * k)))) := by
     rw [← dU hK, mkSe_at]
     exact Z6
    have HF2 : Hid (∀ i, i < k + 1 → putZ f k (mkSe (k0 + 3 * k)) i = mkSe (k0 + 3 * i)) := fun i h => by
     unfold putZ
     split
     ·rename_i e; subst e; rfl
     ·rename_i e; exact dU HF i (by omega)
    have hK2 : Hid (K + 3 = k0 + 3 * (k + 1)) := by rw [Hid, dU hK]; omega
    simp only [putZ_same] at z1' z2'
    clear CT b2 Z4 Z5 Z6 HZ3 HW3 HF s3 z0 f0 z1 f1 z2 f2 hK hhi
    generalize markT (K + 1) = MT at *
    go_wp2
    go_roundw
    case rel => exact ⟨k + 1, K + 3, _, by go_num, by go_num, by omega, hK2, ⟨dU HZ6, dU HF2⟩, W6, by simpa using s5⟩
    case measure => simp [intOf]; omega
   ·have e1 : k = m.length := by omega
    have e2 : Hid ((K : Int) = ((k0 + cntSentS m : Nat) : Int)) := by rw [Hid, dU hK, dU hcn, e1]
    have O := dH (dU FIN wr f (dU hz).1 (fun i hi => (dU hz).2 i (by omega)) hhi)
    clear hz hK FIN HZ0 hcn
    go_wp2
    go_ret
    exact ⟨by have e := dU e2; simp only [Int.natCast_add] at e; simp [e], dU O, dU hw⟩
set_option maxHeartbeats 4000000 in
theorem heldSentS_ (v : Value) (m : List Se) (k0 : Nat) (w : World) (hk : k0 ≤ 1073741824) (hl : cntSentS m ≤ 1073741824) (h : RdSentS v (mkSentS k0 m) w) :
  Calls Tryz.prog 14 #[v, .int .i64 (k0 : Int)] w fun e w' => e = .returned (.int .i64 ((k0 + cntSentS m : Nat) : Int)) ∧ Below w.heap.size w w' := by
 have HV := dH fun W (hb : Below w.heap.size w W) => RdSentS.below h hb
 obtain ⟨a, cap, rfl, -⟩ := formSentS h
 have hlen : m.length ≤ 1073741824 := by unfold cntSentS at hl; omega
 have hcn : Hid (k0 + cntSentS m = k0 + 3 * m.length) := rfl
 have HLN := dH (mkSentS_len k0 m)
 rw [mkSentS_len] at HV
 rw [mkSentS_len]
 clear h
 go_enter Tryz.func14, Tryz.ntmps14
 go_wp2
 go_loopw [5, 1] (fun x y wr => ∃ k K : Nat, x = .int .i64 (k : Int) ∧ y = .int .i64 (K : Int) ∧ k ≤ m.length ∧ Hid (K = k0 + 3 * k) ∧ Below w.heap.size w wr) (fun x _ _ => m.length - (intOf x).toNat)
 case atStart => exact ⟨0, k0, rfl, rfl, Nat.zero_le _, rfl, Below.refl _ _⟩
 case round =>
  obtain ⟨k, K, rfl, rfl, hkk, hK, hb⟩ := hrel
  by_cases hlt : (k : Int) < (m.length : Int)
  ·have hkl : k < (mkSentS k0 m).length := by rw [dU HLN]; omega
   have hKb : K ≤ 2147483648 := by have := dU hK; unfold cntSentS at hl; omega
   obtain ⟨b, off, rfl, hc⟩ := Rw.atSe (dU HV wr hb) hkl
   have E1 := hc k hkl
   rw [mkSentS_at, ← dU hK, mkSe_at] at E1
   have HE := dH E1
   obtain ⟨c0, c1, c2⟩ := E1
   simp only at c0 c1 c2
   have CT := dH fun W => markText_any (K + 1) (by omega) (by omega) W
   have e3 : ((K + 1 : Nat) : Int) = (K : Int) + 1 := by omega
   rw [e3] at CT
   have HC3 : Hid (∀ W, Below wr.heap.size wr W → W.cell? ⟨b, off + k * 3 + 1, none⟩ = some (.string (markT (K + 1)))) := fun W hB => ((dU HE).below hB).2.1
   have HC4 : Hid (∀ W, Below wr.heap.size wr W → W.cell? ⟨b, off + k * 3 + 2, none⟩ = some (.bool (((K : Int) + 1 + 1) % 3 == 0))) := fun W hB => ((dU HE).below hB).2.2
   have hK2 : Hid (K + 3 = k0 + 3 * (k + 1)) := by rw [Hid, dU hK]; omega
   generalize markT (K + 1) = MT at *
   have hbr : Below wr.heap.size wr wr.drew := (Below.refl _ _).drew
   clear hc e3 HE HV hK hkl
   go_wp2_with fail
   go_region_held3 (fun W => W.cell? ⟨b, off + k * 3 + 1, none⟩ = some (.string MT)) (first | exact dU HC3 _ hb5 | go_keep)
    (first
     | (go_at_call 54; refine (dU CT _).mono ?_; rintro r w5 ⟨rfl, b5⟩; have hb5 := bT hbr b5; have q3 := dU HC3 _ hb5; have q4 := dU HC4 _ hb5))
   all_goals
    go_wp2
    go_roundw
    case rel => exact ⟨k + 1, K + 3, by go_num, by go_num, by omega, hK2, bT hb hb5⟩
    case measure => simp [intOf]; omega
  ·have e1 : k = m.length := by omega
   have e2 : Hid ((K : Int) = ((k0 + cntSentS m : Nat) : Int)) := by rw [Hid, dU hK, dU hcn, e1]
   clear hK HV hcn
   go_wp2
   go_ret
   exact ⟨by have e := dU e2; simp only [Int.natCast_add] at e; simp [e], hb⟩
def mkFW (k0 : Nat) (rs : List (Nst Wd)) (k : Nat) (i : Nat) : Nst Wd :=
  if i < k then ⟨(rs.getD i zeroWd).a, (rs.getD i zeroWd).c, mkWd (k0 + cntWordS ((rs.map Nst.m).take i)) (rs.getD i zeroWd).m⟩ else rs.getD i zeroWd
theorem mkFW_nodes (k0 : Nat) (rs : List (Nst Wd)) (k i : Nat) : (mkFW k0 rs k i).m.acks.length = (rs.getD i zeroWd).m.acks.length ∧ Sv Wd.acks (mkFW k0 rs k i) = Sv Wd.acks (rs.getD i zeroWd) := by
  unfold mkFW
  split
  · have e : (mkWd (k0 + cntWordS ((rs.map Nst.m).take i)) (rs.getD i zeroWd).m).acks.length = (rs.getD i zeroWd).m.acks.length := marksN_len _ _
    refine ⟨e, ?_⟩
    unfold Sv
    simp only [e]
  · exact ⟨rfl, rfl⟩
def MarkW (lo hi k0 : Nat) (w wr : World) (b off : Nat) (rs : List (Nst Wd)) (k : Nat) : Prop :=
  RowG 3 wdCl wr b off rs.length (mkFW k0 rs k) ∧ (∀ i, i < rs.length → OwN lo hi (Sv Wd.acks (mkFW k0 rs k i)) (mkFW k0 rs k i).m.acks wr) ∧ Wr lo hi w wr ∧ hi ≤ wr.heap.size
theorem MarkW.step {lo hi k0 : Nat} {w wr w1 w2 : World} {b off k : Nat} {rs : List (Nst Wd)} {v : Value} (h : MarkW lo hi k0 w wr b off rs k) (hk : k < rs.length) (hb1 : lo ≤ b) (hb2 : b < hi) (hA : Apart Wd.acks v rs) (hv : bO v = b) (hB : Below wr.heap.size wr w1)
    (hO : OwN lo hi (Sv Wd.acks rs[k]) (marksN (k0 + cntWordS ((rs.map Nst.m).take k) + 1) rs[k].m.acks.length) w2) (b1 b2 : Nat) (hW : Wr b1 b2 (w1.setCell ⟨b, off + k * 3, none⟩ (.string (markU (k0 + cntWordS ((rs.map Nst.m).take k))))) w2) (hd : (rs[k].m.acks = [] ∧ b1 = 0 ∧ b2 = 0) ∨ (rs[k].m.acks ≠ [] ∧ b1 = bO (Sv Wd.acks rs[k]) ∧ b2 = bO (Sv Wd.acks rs[k]) + 1)) (hW' : Wr lo hi (w1.setCell ⟨b, off + k * 3, none⟩ (.string (markU (k0 + cntWordS ((rs.map Nst.m).take k))))) w2) :
    RowG 3 wdCl w2 b off rs.length (putG (mkFW k0 rs k) k ⟨rs[k].a, rs[k].c, ⟨markU (k0 + cntWordS ((rs.map Nst.m).take k)), rs[k].m.acks, rs[k].m.done⟩⟩) ∧ MarkW lo hi k0 w (w2.setCell ⟨b, off + k * 3 + 2, none⟩ (.bool ((k0 + cntWordS ((rs.map Nst.m).take k) + 1 + rs[k].m.acks.length) % 3 == 0))) b off rs (k + 1) := by
  obtain ⟨h1, h2, h3, h4⟩ := h
  have ek : mkFW k0 rs k k = rs[k] := by unfold mkFW; rw [if_neg (by omega), getD_lt _ hk]
  have ek1 : mkFW k0 rs (k + 1) k = ⟨rs[k].a, rs[k].c, mkWd (k0 + cntWordS ((rs.map Nst.m).take k)) rs[k].m⟩ := by unfold mkFW; rw [if_pos (by omega), getD_lt _ hk]
  have ei : ∀ i, i ≠ k → mkFW k0 rs (k + 1) i = mkFW k0 rs k i := fun i hi => by
    unfold mkFW
    by_cases e : i < k
    · rw [if_pos (by omega), if_pos e]
    · rw [if_neg (by omega), if_neg e]
  generalize hK : k0 + cntWordS ((rs.map Nst.m).take k) = K at *
  have hs1 := hB.size
  have r0 := (h1.below hB).put wdCl_len hk 0 (by decide) (.string (markU K)) ⟨rs[k].a, rs[k].c, ⟨markU K, rs[k].m.acks, rs[k].m.done⟩⟩ (by rw [ek]; rfl)
  rw [Nat.add_zero] at r0
  have hR : RowG 3 wdCl w2 b off rs.length (putG (mkFW k0 rs k) k ⟨rs[k].a, rs[k].c, ⟨markU K, rs[k].m.acks, rs[k].m.done⟩⟩) := r0.wr hW (by
    rcases hd with ⟨-, rfl, rfl⟩ | ⟨hn, rfl, rfl⟩
    · exact .inr (Nat.zero_le _)
    · have := (hA.2 k hk).resolve_left hn
      omega)
  refine ⟨hR, ?_, fun i hil => ?_, ?_, ?_⟩
  · have r2 := hR.put wdCl_len hk 2 (by decide) (.bool ((K + 1 + rs[k].m.acks.length) % 3 == 0)) ⟨rs[k].a, rs[k].c, mkWd K rs[k].m⟩ (by rw [putG_same]; unfold wdCl Sv mkWd; simp only [marksN_len]; rfl)
    rw [putG_twice] at r2
    refine r2.congr fun i hi => ?_
    by_cases e : i = k
    · subst e
      rw [putG_same, ek1]
    · rw [putG_ne _ _ e, ei i e]
  · by_cases e : i = k
    · subst e
      have eS := (mkFW_nodes k0 rs (i + 1) i).2
      rw [getD_lt _ hk] at eS
      rw [eS, ek1]
      refine OwN.putW hO ?_ _
      rcases hA.2 i hk with h | h
      · left
        exact (nil_of_len (marksN_len _ _)).2 h
      · right
        rw [← hv]; exact h
    · rw [ei i e]
      obtain ⟨eN, eS⟩ := mkFW_nodes k0 rs k i
      rw [getD_lt _ hil] at eN eS
      have q : OwN lo hi (Sv Wd.acks (mkFW k0 rs k i)) (mkFW k0 rs k i).m.acks w1 := ⟨(h2 i hil).1.below hB, (h2 i hil).2⟩
      have hnb : (mkFW k0 rs k i).m.acks = [] ∨ bO (Sv Wd.acks (mkFW k0 rs k i)) ≠ b := by
        rcases hA.2 i hil with h | h
        · exact .inl ((nil_of_len eN).2 h)
        · right
          rw [eS, ← hv]; exact h
      have q1 : OwN lo hi (Sv Wd.acks (mkFW k0 rs k i)) (mkFW k0 rs k i).m.acks w2 := (q.putW hnb _).wr hW (by
        rcases hd with ⟨-, rfl, rfl⟩ | ⟨hn, rfl, rfl⟩
        · exact .inr (.inr (Nat.zero_le _))
        · rcases hA.1 i k hil hk e with h | h | h
          · exact .inl ((nil_of_len eN).2 h)
          · exact absurd h hn
          · rw [eS]
            exact .inr (by omega))
      exact q1.putW hnb _
  · exact ((((h3.trans (Wr.of_below hB)).setW hb1 hb2 _).trans hW').setW hb1 hb2 _)
  · have := hW'.size
    rw [World.size_setCell] at this
    simp
    omega
set_option maxHeartbeats 4000000 in
theorem markWordS_ (lo hi : Nat) (v : Value) (m : List Wd) (k0 : Nat) (w : World) (hk : k0 ≤ 536870912) (hl : cntWordS m ≤ 536870912) (h : Sits (OwWordS lo hi v m) lo hi w) :
    Calls Tryz.prog 92 #[v, .int .i64 (k0 : Int)] w fun e w' => e = .returned (.int .i64 ((k0 + cntWordS m : Nat) : Int)) ∧ Sits (OwWordS lo hi v (mkWordS k0 m)) lo hi w' ∧ Wr lo hi w w' := by
  obtain ⟨rs, rfl, hO, hB, hN, hA⟩ := h.now
  have hfit := h.fit
  have hlen : rs.length ≤ 268435456 := by unfold cntWordS at hl; rw [List.length_map] at hl; omega
  obtain ⟨-, a, cap, rfl, hcap, -⟩ := hO.rw
  rcases Nat.eq_zero_or_pos rs.length with h0 | h0
  · have hm : rs = [] := List.length_eq_zero_iff.1 h0
    subst hm
    have e1 : mkWordS k0 (List.map Nst.m ([] : List (Nst Wd))) = [] := rfl
    have e2 : k0 + cntWordS (List.map Nst.m ([] : List (Nst Wd))) = k0 := rfl
    rw [e1, e2]
    have h' : Sits (OwWordS lo hi (.slice a ([] : List (Nst Wd)).length cap) []) lo hi w := h
    clear hl hO hB e1 e2 hN hA h
    go_enter Tryz.func92, Tryz.ntmps92
    go_wp2
    go_rounds 1
    go_ret
    exact ⟨rfl, h', Wr.refl _ _ _⟩
  · obtain ⟨b, off, rfl, hb1, Z0⟩ := hO.rowG h0 zeroWd
    have hb2 : b < hi := by
      rcases hB with h | h
      · rw [h] at h0; simp at h0
      · exact h
    have HS : Hid (∀ k (hk : k < rs.length), rs[k].m.acks.length ≤ 536870912 ∧ cntWordS ((rs.map Nst.m).take (k + 1)) = cntWordS ((rs.map Nst.m).take k) + rs[k].m.acks.length + 2 ∧ cntWordS ((rs.map Nst.m).take (k + 1)) ≤ 536870912) := fun k hk => by
      have h1 := cntWordS_take (rs.map Nst.m) k (by simpa using hk)
      have h2 := cntWordS_le' (rs.map Nst.m) (k + 1)
      rw [List.getElem_map] at h1
      exact ⟨by omega, h1, by omega⟩
    have M0 : MarkW lo hi k0 w w b off rs 0 := ⟨Z0.congr fun i hi => by unfold mkFW; rw [if_neg (by omega)], fun i hi => by
      have e : mkFW k0 rs 0 i = rs[i] := by unfold mkFW; rw [if_neg (by omega), getD_lt _ hi]
      rw [e]
      exact hN _ (List.getElem_mem hi), Wr.refl _ _ _, hfit⟩
    have FIN : Hid (∀ W : World, MarkW lo hi k0 w W b off rs rs.length → Sits (OwWordS lo hi (.slice (some ⟨b, off, none⟩) rs.length cap) (mkWordS k0 (rs.map Nst.m))) lo hi W) := fun W ⟨h1, h2, h3, h4⟩ => by
      have q := OwK.build (sub := Wd.acks) (lo := lo) (hi := hi) (cap := cap) h1 hb1 (.inr hb2) hcap h2 (fun i j hi hj hij => by
        obtain ⟨eN, eS⟩ := mkFW_nodes k0 rs rs.length i
        obtain ⟨eN', eS'⟩ := mkFW_nodes k0 rs rs.length j
        rw [getD_lt _ hi] at eN eS
        rw [getD_lt _ hj] at eN' eS'
        rw [eS, eS', nil_of_len eN, nil_of_len eN']
        exact hA.1 i j hi hj hij) (fun i hi => by
        obtain ⟨eN, eS⟩ := mkFW_nodes k0 rs rs.length i
        rw [getD_lt _ hi] at eN eS
        rw [eS, nil_of_len eN]
        exact hA.2 i hi)
      rw [range_map_m (ms := mkWordS k0 (rs.map Nst.m)) (by rw [mkWordS_len, List.length_map]) (fun i hi => by
        have hi' : i < rs.length := by rw [mkWordS_len, List.length_map] at hi; exact hi
        rw [mkWordS_at k0 (rs.map Nst.m) i (by simpa using hi'), List.getElem_map]
        unfold mkFW
        rw [if_pos hi', getD_lt _ hi'])] at q
      exact OwK.sits q h4
    have HA := dH hA
    have hcn : Hid (cntWordS ((rs.map Nst.m).take rs.length) = cntWordS (rs.map Nst.m)) := by rw [Hid, List.take_of_length_le (by simp)]
    have HM0 := dH M0
    clear h hO hB Z0 hN hA M0 hl
    go_enter Tryz.func92, Tryz.ntmps92
    go_wp2
    go_loopw [5, 1] (fun x y wr => ∃ (k K : Nat), x = .int .i64 (k : Int) ∧ y = .int .i64 (K : Int) ∧ k ≤ rs.length ∧ K ≤ 1073741824 ∧ Hid (K = k0 + cntWordS ((rs.map Nst.m).take k)) ∧ Hid (MarkW lo hi k0 w wr b off rs k)) (fun x _ _ => rs.length - (intOf x).toNat)
    case atStart => exact ⟨0, k0, rfl, rfl, Nat.zero_le _, by omega, rfl, dU HM0⟩
    case round =>
      obtain ⟨k, K, rfl, rfl, hkk, hKb, hK, hM⟩ := hrel
      by_cases hlt : (k : Int) < (rs.length : Int)
      · have hkl : k < rs.length := by omega
        obtain ⟨s1, s2, s3⟩ := dU HS k hkl
        have ek : mkFW k0 rs k k = rs[k] := by unfold mkFW; rw [if_neg (by omega), getD_lt _ hkl]
        have CX := dH fun W => markText_all K (by omega) W
        have CT : Hid (∀ W, Below wr.heap.size wr W → Calls Tryz.prog 49 #[Sv Wd.acks rs[k], .int .i64 ((K + 1 : Nat) : Int)] (W.setCell ⟨b, off + k * 3, none⟩ (.string (markU K))) fun e w' => e = .returned (.int .i64 ((K + 1 + rs[k].m.acks.length : Nat) : Int)) ∧ OwN lo hi (Sv Wd.acks rs[k]) (marksN (K + 1) rs[k].m.acks.length) w' ∧ (∃ b1 b2, Wr b1 b2 (W.setCell ⟨b, off + k * 3, none⟩ (.string (markU K))) w' ∧ ((rs[k].m.acks = [] ∧ b1 = 0 ∧ b2 = 0) ∨ (rs[k].m.acks ≠ [] ∧ b1 = bO (Sv Wd.acks rs[k]) ∧ b2 = bO (Sv Wd.acks rs[k]) + 1))) ∧ Wr lo hi (W.setCell ⟨b, off + k * 3, none⟩ (.string (markU K))) w') := fun W hB => by
          have q := (dU hM).2.1 k hkl
          rw [ek] at q
          have q' : OwN lo hi (Sv Wd.acks rs[k]) rs[k].m.acks W := ⟨q.1.below hB, q.2⟩
          have hsz := (dU hM).2.2.2
          have hs1 := hB.size
          exact markN_in lo hi (Sv Wd.acks rs[k]) rs[k].m.acks (K + 1) _ (by omega) (by omega) (by rw [World.size_setCell]; omega) (q'.putW (by
            rcases (dU HA).2 k hkl with h | h
            · exact .inl h
            · exact .inr h) _)
        have Z0 : Hid (∀ W, Below wr.heap.size wr W → (W.cell? ⟨b, off + k * 3, none⟩ = some (.string rs[k].m.data) ∧ W.frozen? ⟨b, off + k * 3, none⟩ = false) ∧ W.cell? ⟨b, off + k * 3 + 1, none⟩ = some (.slice rs[k].a rs[k].m.acks.length rs[k].c)) := fun W hB => by
          have q := (dU hM).1.below hB
          obtain ⟨z0, f0⟩ := q k hkl 0 _ (by rw [ek]; rfl)
          obtain ⟨z1, f1⟩ := q k hkl 1 _ (by rw [ek]; rfl)
          exact ⟨⟨by simpa using z0, by simpa using f0⟩, z1⟩
        have ST : Hid (∀ w1 w2, Below wr.heap.size wr w1 → OwN lo hi (Sv Wd.acks rs[k]) (marksN (K + 1) rs[k].m.acks.length) w2 → ∀ b1 b2, Wr b1 b2 (w1.setCell ⟨b, off + k * 3, none⟩ (.string (markU K))) w2 → ((rs[k].m.acks = [] ∧ b1 = 0 ∧ b2 = 0) ∨ (rs[k].m.acks ≠ [] ∧ b1 = bO (Sv Wd.acks rs[k]) ∧ b2 = bO (Sv Wd.acks rs[k]) + 1)) → Wr lo hi (w1.setCell ⟨b, off + k * 3, none⟩ (.string (markU K))) w2 →
            (w2.cell? ⟨b, off + k * 3 + 2, none⟩ = some (.bool rs[k].m.done) ∧ w2.frozen? ⟨b, off + k * 3 + 2, none⟩ = false) ∧ MarkW lo hi k0 w (w2.setCell ⟨b, off + k * 3 + 2, none⟩ (.bool ((K + 1 + rs[k].m.acks.length) % 3 == 0))) b off rs (k + 1)) := fun w1 w2 hB hO b1 b2 hW hd hW' => by
          have hK' := dU hK
          subst hK'
          obtain ⟨q1, q2⟩ := (dU hM).step hkl hb1 hb2 (dU HA) rfl hB hO b1 b2 hW hd hW'
          exact ⟨q1 k hkl 2 _ (by rw [putG_same]; rfl), q2⟩
        have hK2 : Hid (K + rs[k].m.acks.length + 2 = k0 + cntWordS ((rs.map Nst.m).take (k + 1))) := by rw [Hid, s2, dU hK]; omega
        have hKb2 : K + rs[k].m.acks.length + 2 ≤ 1073741824 := by rw [dU hK2]; omega
        unfold Sv at CT ST
        have em : (((K + 1 + rs[k].m.acks.length : Nat) : Int) % 3 == 0) = ((K + 1 + rs[k].m.acks.length) % 3 == 0) := mod3_eq _
        generalize hy : rs[k] = y at *
        obtain ⟨ya, yc, yd, yn, yb⟩ := y
        simp only at *
        clear hM s1 s2 s3 ek
        have eK1 : ((K + 1 : Nat) : Int) = (K : Int) + 1 := by omega
        rw [eK1] at CT
        generalize markU K = MU at *
        go_wp2_with fail
        refine (dU CX _).mono ?_
        rintro r w1 ⟨rfl, b1⟩
        obtain ⟨⟨z0, f0⟩, z1⟩ := dU Z0 w1 b1
        have CT1 := dH (dU CT w1 b1)
        clear CX CT Z0
        go_wp2_with fail
        refine (dU CT1).mono ?_
        rintro r w2 ⟨rfl, o2, ⟨d1, d2, d3, hd1⟩, d4⟩
        obtain ⟨⟨z2, f2⟩, M2⟩ := dU ST w1 w2 b1 o2 d1 d2 d3 hd1 d4
        have HM2 := dH M2
        clear CT1 ST o2 d1 hd1 d3 d4 z0 f0 z1 M2 b1
        rw [← em] at HM2
        have e4 : ((K + yn.length + 2 : Nat) : Int) = ((K + 1 + yn.length : Nat) : Int) + 1 := by omega
        have G := dH (show ∃ (k' K' : Nat), (Value.int .i64 ((k : Int) + 1)) = .int .i64 (k' : Int) ∧ (Value.int .i64 (((K + 1 + yn.length : Nat) : Int) + 1)) = .int .i64 (K' : Int) ∧ k' ≤ rs.length ∧ K' ≤ 1073741824 ∧ Hid (K' = k0 + cntWordS ((rs.map Nst.m).take k')) ∧ k' = k + 1 from ⟨k + 1, K + yn.length + 2, by rw [Int.natCast_add]; rfl, by rw [e4], by omega, hKb2, hK2, rfl⟩)
        have hq : (K + 1 + yn.length : Nat) ≤ 1073741824 := by omega
        generalize (K + 1 + yn.length : Nat) = q at *
        clear e4 em hK2 hKb2 eK1
        go_wp2
        go_roundw
        case rel =>
          obtain ⟨k', K', g1, g2, g3, g4, g5, rfl⟩ := dU G
          exact ⟨k + 1, K', by go_num, by first | exact g2 | (rw [← g2]; go_num), g3, g4, g5, dU HM2⟩
        case measure => simp [intOf]; omega
      · have e1 : k = rs.length := by omega
        subst e1
        have e2 : Hid ((K : Int) = ((k0 + cntWordS (rs.map Nst.m) : Nat) : Int)) := by rw [Hid, dU hK, dU hcn]
        have O := dH (dU FIN wr (dU hM))
        have hw := dH (dU hM).2.2.1
        clear hM hK FIN HM0 hcn
        go_wp2
        go_ret
        exact ⟨by have e := dU e2; simp only [Int.natCast_add] at e; simp [e], dU O, dU hw⟩
set_option maxHeartbeats 4000000 in
theorem markSentS_w (lo hi : Nat) (v : Value) (m : List Se) (k0 : Nat) (w : World) (hk : k0 ≤ 134217728) (hl : cntSentS m ≤ 134217728) (hf : hi ≤ w.heap.size) (h : OwSentS lo hi v m w) :
  Calls Tryz.prog 13 #[v, .int .i64 (k0 : Int)] w fun e w' => e = .returned (.int .i64 ((k0 + cntSentS m : Nat) : Int)) ∧ Wr lo hi w w' := by
 obtain ⟨hown, hlt⟩ := h
 obtain ⟨a, cap, rfl, -⟩ := formSentS (OwnRw.rw hown)
 have hlen : m.length ≤ 134217728 := by unfold cntSentS at hl; omega
 have hcn : Hid (k0 + cntSentS m = k0 + 3 * m.length) := rfl
 by_cases hm : m.length = 0
 ·obtain rfl : m = [] := List.length_eq_zero_iff.1 hm
  clear hown hlt hm
  simp only [List.length_nil] at *
  go_enter Tryz.func13, Tryz.ntmps13
  go_wp2
  go_rounds 1
  go_ret
  exact ⟨by simp [cntSentS], Wr.refl _ _ _⟩
 ·obtain ⟨b, off, rfl, hb1, hz0⟩ := hown.rwZ zeroSe (by omega)
  have hb2 : b < hi := by
   rcases hlt with h | h
   ·exact absurd (by rw [h]; rfl) hm
   ·exact h
  have HZ0 := dH hz0
  clear hown hlt hz0 hm
  go_enter Tryz.func13, Tryz.ntmps13
  go_wp2
  go_loopw [5, 1] (fun x y wr => ∃ (k K : Nat), ∃ f : Nat → Se, x = .int .i64 (k : Int) ∧ y = .int .i64 (K : Int) ∧ k ≤ m.length ∧ Hid (K = k0 + 3 * k) ∧ Hid (RwZ 3 Se.cl wr b off m.length f) ∧ Hid (Wr lo hi w wr)) (fun x _ _ => m.length - (intOf x).toNat)
  case atStart => exact ⟨0, k0, _, rfl, rfl, Nat.zero_le _, rfl, dU HZ0, Wr.refl _ _ _⟩
  case round =>
   obtain ⟨k, K, f, rfl, rfl, hkk, hK, hz, hw⟩ := hrel
   by_cases hlt : (k : Int) < (m.length : Int)
   ·have hkl : k < m.length := by omega
    have hKb : K ≤ 8589934592 := by have := dU hK; omega
    have hKb2 : K ≤ 2147483648 := by have := dU hK; omega
    obtain ⟨z0, f0⟩ := (dU hz) k hkl 0 _ rfl
    simp only [Nat.add_zero] at z0 f0
    have CT := dH fun W => markText_any (K + 1) (by omega) (by omega) W
    have e3 : ((K + 1 : Nat) : Int) = (K : Int) + 1 := by omega
    rw [e3] at CT
    have Z0x := (dU hz).cell Se.cl_len hkl 0 (by decide) (.int .i64 (K : Int)) ⟨(K : Int), (f k).data, (f k).sure⟩ (by rfl)
    simp only [Nat.add_zero] at Z0x
    have HZ3 := dH Z0x
    have HW3 := dH ((dU hw).setSe (o := off + k * 3) hb1 hb2 (.int .i64 (K : Int)))
    clear e3 Z0x hz hw
    go_wp2_with fail
    generalize wr.setCell ⟨b, off + k * 3, none⟩ (.int .i64 (K : Int)) = V at *
    refine (dU CT _).mono ?_
    rintro r w2 ⟨rfl, b2⟩
    have Z4 := (dU HZ3).below b2
    obtain ⟨z1, f1⟩ := Z4 k hkl 1 _ rfl
    obtain ⟨z2, f2⟩ := Z4 k hkl 2 _ rfl
    have Z5 := Z4.cell Se.cl_len hkl 1 (by decide) (.string (markT (K + 1))) ⟨(K : Int), markT (K + 1), (f k).sure⟩ (by simp only [putZ_same]; rfl)
    obtain ⟨z3, f3⟩ := Z5 k hkl 2 _ rfl
    have Z6 := Z5.cell Se.cl_len hkl 2 (by decide) (.bool (((K : Int) + 1 + 1) % 3 == 0)) ⟨(K : Int), markT (K + 1), (((K : Int) + 1 + 1) % 3 == 0)⟩ (by simp only [putZ_same]; rfl)
    have HZ6 := dH Z6
    have W6 := dH ((((dU HW3).trans (Wr.of_below b2)).setSe (o := off + k * 3 + 1) hb1 hb2 (.string (markT (K + 1)))).setSe (o := off + k * 3 + 2) hb1 hb2 (.bool (((K : Int) + 1 + 1) % 3 == 0)))
    have hK2 : Hid (K + 3 = k0 + 3 * (k + 1)) := by rw [Hid, dU hK]; omega
    simp only [putZ_same] at z1 z2 z3
    clear CT b2 Z4 Z5 Z6 HZ3 HW3 z0 f0 hK
    generalize markT (K + 1) = MT at *
    go_wp2
    go_roundw
    case rel => exact ⟨k + 1, K + 3, _, by go_num, by go_num, by omega, hK2, dU HZ6, dU W6⟩
    case measure => simp [intOf]; omega
   ·have e1 : k = m.length := by omega
    have e2 : Hid ((K : Int) = ((k0 + cntSentS m : Nat) : Int)) := by rw [Hid, dU hK, dU hcn, e1]
    clear hz hK HZ0 hcn
    go_wp2
    go_ret
    exact ⟨by have e := dU e2; simp only [Int.natCast_add] at e; simp [e], dU hw⟩
end Go.Proofs.YtkiclbbialadlaaGreat
