/- Several texts in one: SitT, RgB, ImGa. -/
import Derived.Test.YtkiclbbialadlaaGreatSitS
import Derived.Test.YtkiclbbialadlaaGreatGw2
import Derived.Test.YtkiclbbialadlaaGreatGbO
import Derived.Test.YtkiclbbialadlaaGreatGaC
import Derived.Test.YtkiclbbialadlaaGreatGaT
import Derived.Lib.SliceRun
namespace Go.Proofs.YtkiclbbialadlaaGreat
open Go.ChangeShapes Go.WideShapes Go.ChangeAt Go.RowKit
set_option linter.unusedSimpArgs false
set_option linter.unusedVariables false
set_option maxRecDepth 100000
def mkF (k0 : Nat) (rs : List (Nst Er)) (k : Nat) (i : Nat) : Nst Er :=
  if i < k then ⟨(rs.getD i zeroEr).a, (rs.getD i zeroEr).c, mkEr (k0 + cntEraS ((rs.map Nst.m).take i)) (rs.getD i zeroEr).m⟩ else rs.getD i zeroEr
theorem mkF_nodes (k0 : Nat) (rs : List (Nst Er)) (k i : Nat) : (mkF k0 rs k i).m.nodes.length = (rs.getD i zeroEr).m.nodes.length ∧ Sv Er.nodes (mkF k0 rs k i) = Sv Er.nodes (rs.getD i zeroEr) := by
  unfold mkF
  split
  · have e : (mkEr (k0 + cntEraS ((rs.map Nst.m).take i)) (rs.getD i zeroEr).m).nodes.length = (rs.getD i zeroEr).m.nodes.length := marksN_len _ _
    refine ⟨e, ?_⟩
    unfold Sv
    simp only [e]
  · exact ⟨rfl, rfl⟩
def MarkK (lo hi k0 : Nat) (w wr : World) (b off : Nat) (rs : List (Nst Er)) (k : Nat) : Prop :=
  RowG 3 erCl wr b off rs.length (mkF k0 rs k) ∧ (∀ i, i < rs.length → OwN lo hi (Sv Er.nodes (mkF k0 rs k i)) (mkF k0 rs k i).m.nodes wr) ∧ Wr lo hi w wr ∧ hi ≤ wr.heap.size
theorem MarkK.step {lo hi k0 : Nat} {w wr w2 : World} {b off k : Nat} {rs : List (Nst Er)} {v : Value} (h : MarkK lo hi k0 w wr b off rs k) (hk : k < rs.length) (hb1 : lo ≤ b) (hb2 : b < hi) (hA : Apart Er.nodes v rs) (hv : bO v = b)
    (hO : OwN lo hi (Sv Er.nodes rs[k]) (marksN (k0 + cntEraS ((rs.map Nst.m).take k)) rs[k].m.nodes.length) w2) (b1 b2 : Nat) (hW : Wr b1 b2 wr w2) (hd : (rs[k].m.nodes = [] ∧ b1 = 0 ∧ b2 = 0) ∨ (rs[k].m.nodes ≠ [] ∧ b1 = bO (Sv Er.nodes rs[k]) ∧ b2 = bO (Sv Er.nodes rs[k]) + 1)) (hW' : Wr lo hi wr w2) :
    RowG 3 erCl w2 b off rs.length (mkF k0 rs k) ∧ MarkK lo hi k0 w ((w2.setCell ⟨b, off + k * 3 + 1, none⟩ (.bool ((k0 + cntEraS ((rs.map Nst.m).take k) + rs[k].m.nodes.length) % 3 == 0))).setCell ⟨b, off + k * 3 + 2, none⟩ (.int .i64 ((k0 + cntEraS ((rs.map Nst.m).take k) + rs[k].m.nodes.length + 1 : Nat) : Int))) b off rs (k + 1) := by
  obtain ⟨h1, h2, h3, h4⟩ := h
  have ek : mkF k0 rs k k = rs[k] := by unfold mkF; rw [if_neg (by omega), getD_lt _ hk]
  have ek1 : mkF k0 rs (k + 1) k = ⟨rs[k].a, rs[k].c, mkEr (k0 + cntEraS ((rs.map Nst.m).take k)) rs[k].m⟩ := by unfold mkF; rw [if_pos (by omega), getD_lt _ hk]
  have ei : ∀ i, i ≠ k → mkF k0 rs (k + 1) i = mkF k0 rs k i := fun i hi => by
    unfold mkF
    by_cases e : i < k
    · rw [if_pos (by omega), if_pos e]
    · rw [if_neg (by omega), if_neg e]
  have hR : RowG 3 erCl w2 b off rs.length (mkF k0 rs k) := h1.wr hW (by
    rcases hd with ⟨-, rfl, rfl⟩ | ⟨hn, rfl, rfl⟩
    · exact .inr (Nat.zero_le _)
    · have := (hA.2 k hk).resolve_left hn
      omega)
  refine ⟨hR, ?_, fun i hil => ?_, ?_, ?_⟩
  · have r1 := hR.put erCl_len hk 1 (by decide) (.bool ((k0 + cntEraS ((rs.map Nst.m).take k) + rs[k].m.nodes.length) % 3 == 0)) ⟨rs[k].a, rs[k].c, ⟨marksN (k0 + cntEraS ((rs.map Nst.m).take k)) rs[k].m.nodes.length, _, rs[k].m.last⟩⟩ (by rw [ek]; unfold erCl Sv; simp only [marksN_len]; rfl)
    have r2 := r1.put erCl_len hk 2 (by decide) (.int .i64 ((k0 + cntEraS ((rs.map Nst.m).take k) + rs[k].m.nodes.length + 1 : Nat) : Int)) ⟨rs[k].a, rs[k].c, mkEr (k0 + cntEraS ((rs.map Nst.m).take k)) rs[k].m⟩ (by rw [putG_same]; rfl)
    rw [putG_twice] at r2
    refine r2.congr fun i hi => ?_
    by_cases e : i = k
    · subst e
      rw [putG_same, ek1]
    · rw [putG_ne _ _ e, ei i e]
  · have far : ∀ {v : Value} {xs : List Int} (u u' : Value), OwN lo hi v xs w2 → (xs = [] ∨ bO v ≠ b) → OwN lo hi v xs ((w2.setCell ⟨b, off + k * 3 + 1, none⟩ u).setCell ⟨b, off + k * 3 + 2, none⟩ u') := fun {v xs} u u' q hb => (q.putW hb _).putW hb _
    by_cases e : i = k
    · subst e
      have eS := (mkF_nodes k0 rs (i + 1) i).2
      rw [getD_lt _ hk] at eS
      rw [eS, ek1]
      refine far _ _ hO ?_
      rcases hA.2 i hk with h | h
      · left
        exact (nil_of_len (marksN_len _ _)).2 h
      · right
        rw [← hv]; exact h
    · rw [ei i e]
      obtain ⟨eN, eS⟩ := mkF_nodes k0 rs k i
      rw [getD_lt _ hil] at eN eS
      have q := h2 i hil
      have q1 : OwN lo hi (Sv Er.nodes (mkF k0 rs k i)) (mkF k0 rs k i).m.nodes w2 := q.wr hW (by
        rcases hd with ⟨-, rfl, rfl⟩ | ⟨hn, rfl, rfl⟩
        · exact .inr (.inr (Nat.zero_le _))
        · rcases hA.1 i k hil hk e with h | h | h
          · exact .inl ((nil_of_len eN).2 h)
          · exact absurd h hn
          · rw [eS]
            exact .inr (by omega))
      refine far _ _ q1 ?_
      rcases hA.2 i hil with h | h
      · exact .inl ((nil_of_len eN).2 h)
      · right
        rw [eS, ← hv]; exact h
  · exact ((h3.trans hW').setW hb1 hb2 _).setW hb1 hb2 _
  · have := hW'.size
    simp
    omega
set_option maxHeartbeats 4000000 in
theorem markEraS_ (lo hi : Nat) (v : Value) (m : List Er) (k0 : Nat) (w : World) (hk : k0 ≤ 536870912) (hl : cntEraS m ≤ 536870912) (h : Sits (OwEraS lo hi v m) lo hi w) :
    Calls Tryz.prog 91 #[v, .int .i64 (k0 : Int)] w fun e w' => e = .returned (.int .i64 ((k0 + cntEraS m : Nat) : Int)) ∧ Sits (OwEraS lo hi v (mkEraS k0 m)) lo hi w' ∧ Wr lo hi w w' := by
  obtain ⟨rs, rfl, hO, hB, hN, hA⟩ := h.now
  have hfit := h.fit
  have hlen : rs.length ≤ 268435456 := by unfold cntEraS at hl; rw [List.length_map] at hl; omega
  obtain ⟨-, a, cap, rfl, hcap, -⟩ := hO.rw
  rcases Nat.eq_zero_or_pos rs.length with h0 | h0
  · have hm : rs = [] := List.length_eq_zero_iff.1 h0
    subst hm
    have e1 : mkEraS k0 (List.map Nst.m ([] : List (Nst Er))) = [] := rfl
    have e2 : k0 + cntEraS (List.map Nst.m ([] : List (Nst Er))) = k0 := rfl
    rw [e1, e2]
    have h' : Sits (OwEraS lo hi (.slice a ([] : List (Nst Er)).length cap) []) lo hi w := h
    clear hl hO hB e1 e2 hN hA h
    go_enter Tryz.func91, Tryz.ntmps91
    go_wp2
    go_rounds 1
    go_ret
    exact ⟨rfl, h', Wr.refl _ _ _⟩
  · obtain ⟨b, off, rfl, hb1, Z0⟩ := hO.rowG h0 zeroEr
    have hb2 : b < hi := by
      rcases hB with h | h
      · rw [h] at h0; simp at h0
      · exact h
    have HS : Hid (∀ k (hk : k < rs.length), rs[k].m.nodes.length ≤ 536870912 ∧ cntEraS ((rs.map Nst.m).take (k + 1)) = cntEraS ((rs.map Nst.m).take k) + rs[k].m.nodes.length + 2 ∧ cntEraS ((rs.map Nst.m).take (k + 1)) ≤ 536870912) := fun k hk => by
      have h1 := cntEraS_take (rs.map Nst.m) k (by simpa using hk)
      have h2 := cntEraS_le' (rs.map Nst.m) (k + 1)
      rw [List.getElem_map] at h1
      exact ⟨by omega, h1, by omega⟩
    have M0 : MarkK lo hi k0 w w b off rs 0 := ⟨Z0.congr fun i hi => by unfold mkF; rw [if_neg (by omega)], fun i hi => by
      have e : mkF k0 rs 0 i = rs[i] := by unfold mkF; rw [if_neg (by omega), getD_lt _ hi]
      rw [e]
      exact hN _ (List.getElem_mem hi), Wr.refl _ _ _, hfit⟩
    have FIN : Hid (∀ W : World, MarkK lo hi k0 w W b off rs rs.length → Sits (OwEraS lo hi (.slice (some ⟨b, off, none⟩) rs.length cap) (mkEraS k0 (rs.map Nst.m))) lo hi W) := fun W ⟨h1, h2, h3, h4⟩ => by
      have q := OwK.build (sub := Er.nodes) (lo := lo) (hi := hi) (cap := cap) h1 hb1 (.inr hb2) hcap h2 (fun i j hi hj hij => by
        obtain ⟨eN, eS⟩ := mkF_nodes k0 rs rs.length i
        obtain ⟨eN', eS'⟩ := mkF_nodes k0 rs rs.length j
        rw [getD_lt _ hi] at eN eS
        rw [getD_lt _ hj] at eN' eS'
        rw [eS, eS', nil_of_len eN, nil_of_len eN']
        exact hA.1 i j hi hj hij) (fun i hi => by
        obtain ⟨eN, eS⟩ := mkF_nodes k0 rs rs.length i
        rw [getD_lt _ hi] at eN eS
        rw [eS, nil_of_len eN]
        exact hA.2 i hi)
      rw [range_map_m (ms := mkEraS k0 (rs.map Nst.m)) (by rw [mkEraS_len, List.length_map]) (fun i hi => by
        have hi' : i < rs.length := by rw [mkEraS_len, List.length_map] at hi; exact hi
        rw [mkEraS_at k0 (rs.map Nst.m) i (by simpa using hi'), List.getElem_map]
        unfold mkF
        rw [if_pos hi', getD_lt _ hi'])] at q
      exact OwK.sits q h4
    have HA := dH hA
    have hcn : Hid (cntEraS ((rs.map Nst.m).take rs.length) = cntEraS (rs.map Nst.m)) := by rw [Hid, List.take_of_length_le (by simp)]
    have HM0 := dH M0
    clear h hO hB Z0 hN hA M0 hl
    go_enter Tryz.func91, Tryz.ntmps91
    go_wp2
    go_loopw [5, 1] (fun x y wr => ∃ (k K : Nat), x = .int .i64 (k : Int) ∧ y = .int .i64 (K : Int) ∧ k ≤ rs.length ∧ K ≤ 1073741824 ∧ Hid (K = k0 + cntEraS ((rs.map Nst.m).take k)) ∧ Hid (MarkK lo hi k0 w wr b off rs k)) (fun x _ _ => rs.length - (intOf x).toNat)
    case atStart => exact ⟨0, k0, rfl, rfl, Nat.zero_le _, by omega, rfl, dU HM0⟩
    case round =>
      obtain ⟨k, K, rfl, rfl, hkk, hKb, hK, hM⟩ := hrel
      by_cases hlt : (k : Int) < (rs.length : Int)
      · have hkl : k < rs.length := by omega
        obtain ⟨s1, s2, s3⟩ := dU HS k hkl
        have ek : mkF k0 rs k k = rs[k] := by unfold mkF; rw [if_neg (by omega), getD_lt _ hkl]
        obtain ⟨z0, f0⟩ := (dU hM).1 k hkl 0 _ rfl
        have ek' := ek
        have CT := dH (markN_in lo hi (Sv Er.nodes rs[k]) rs[k].m.nodes K wr (by omega) (by omega) (dU hM).2.2.2 (by have := (dU hM).2.1 k hkl; rw [ek] at this; exact this))
        have ST : Hid (∀ w2, OwN lo hi (Sv Er.nodes rs[k]) (marksN K rs[k].m.nodes.length) w2 → ∀ b1 b2, Wr b1 b2 wr w2 → ((rs[k].m.nodes = [] ∧ b1 = 0 ∧ b2 = 0) ∨ (rs[k].m.nodes ≠ [] ∧ b1 = bO (Sv Er.nodes rs[k]) ∧ b2 = bO (Sv Er.nodes rs[k]) + 1)) → Wr lo hi wr w2 →
            RowG 3 erCl w2 b off rs.length (mkF k0 rs k) ∧ MarkK lo hi k0 w ((w2.setCell ⟨b, off + k * 3 + 1, none⟩ (.bool ((K + rs[k].m.nodes.length) % 3 == 0))).setCell ⟨b, off + k * 3 + 2, none⟩ (.int .i64 ((K + rs[k].m.nodes.length + 1 : Nat) : Int))) b off rs (k + 1)) := fun w2 hO b1 b2 hW hd hW' => by
          have hK' := dU hK
          subst hK'
          exact (dU hM).step hkl hb1 hb2 (dU HA) rfl hO b1 b2 hW hd hW'
        have hK2 : Hid (K + rs[k].m.nodes.length + 2 = k0 + cntEraS ((rs.map Nst.m).take (k + 1))) := by rw [Hid, s2, dU hK]; omega
        have hKb2 : K + rs[k].m.nodes.length + 2 ≤ 1073741824 := by rw [dU hK2]; omega
        unfold Sv at CT ST
        simp only [ek, Sv, Nat.add_zero] at z0 f0
        have em : (((K + rs[k].m.nodes.length : Nat) : Int) % 3 == 0) = ((K + rs[k].m.nodes.length) % 3 == 0) := mod3_eq _
        generalize hy : rs[k] = y at *
        obtain ⟨ya, yc, yn, yb, yl⟩ := y
        simp only at *
        clear hM s1 s2 s3
        go_wp2_with fail
        refine (dU CT).mono ?_
        rintro r w2 ⟨rfl, o2, ⟨b1, b2, d1, hd1⟩, d2⟩
        obtain ⟨R2, M2⟩ := dU ST w2 o2 b1 b2 d1 hd1 d2
        obtain ⟨z1, f1⟩ := R2 k hkl 1 _ rfl
        obtain ⟨z2, f2⟩ := R2 k hkl 2 _ rfl
        have HM2 := dH M2
        clear CT ST o2 d1 hd1 d2 z0 f0 R2 M2
        rw [← em] at HM2
        have e3 : ((K + yn.length + 1 : Nat) : Int) = ((K + yn.length : Nat) : Int) + 1 := by omega
        have e4 : ((K + yn.length + 2 : Nat) : Int) = ((K + yn.length : Nat) : Int) + 1 + 1 := by omega
        rw [e3] at HM2
        have G := dH (show ∃ (k' K' : Nat), (Value.int .i64 ((k : Int) + 1)) = .int .i64 (k' : Int) ∧ (Value.int .i64 (((K + yn.length : Nat) : Int) + 1 + 1)) = .int .i64 (K' : Int) ∧ k' ≤ rs.length ∧ K' ≤ 1073741824 ∧ Hid (K' = k0 + cntEraS ((rs.map Nst.m).take k')) ∧ k' = k + 1 from ⟨k + 1, K + yn.length + 2, by rw [Int.natCast_add]; rfl, by rw [e4], by omega, hKb2, hK2, rfl⟩)
        have hq : (K + yn.length : Nat) ≤ 1073741824 := by omega
        generalize (K + yn.length : Nat) = q at *
        clear e3 e4 em hK2 hKb2
        go_wp2
        go_roundw
        case rel =>
          obtain ⟨k', K', g1, g2, g3, g4, g5, rfl⟩ := dU G
          exact ⟨k + 1, K', by go_num, by first | exact g2 | (rw [← g2]; go_num), g3, g4, g5, dU HM2⟩
        case measure => simp [intOf]; omega
      · have e1 : k = rs.length := by omega
        subst e1
        have e2 : Hid ((K : Int) = ((k0 + cntEraS (rs.map Nst.m) : Nat) : Int)) := by rw [Hid, dU hK, dU hcn]
        have O := dH (dU FIN wr (dU hM))
        have hw := dH (dU hM).2.2.1
        clear hM hK FIN HM0 hcn
        go_wp2
        go_ret
        exact ⟨by have e := dU e2; simp only [Int.natCast_add] at e; simp [e], dU O, dU hw⟩
set_option maxHeartbeats 2000000 in
theorem markRegister_ (lo hi : Nat) (v : Value) (m : Rg) (k0 : Nat) (w : World) (hk : k0 ≤ 536870912) (hl : cntRegister m ≤ 536870912) (h : Sits (OwRegister lo hi v m) lo hi w) :
    Calls Tryz.prog 50 #[v, .int .i64 (k0 : Int)] w fun e w' => e = .returned (.int .i64 ((k0 + cntRegister m : Nat) : Int)) ∧ Sits (OwRegister lo hi v (mkRegister k0 m)) lo hi w' ∧ Wr lo hi w w' := by
  obtain ⟨sv, rfl, hn⟩ := h.now
  have hN : Sits (OwEraS lo hi sv m.eras) lo hi w := h.imp fun W ⟨sv', h1, h2⟩ => by cases h1; exact h2
  have hb0 : ∀ o, Below w.heap.size w (w.alloc o) := fun o => (Below.refl _ _).alloc (Nat.le_refl _) o
  have C1 := dH fun o => markEraS_ lo hi sv m.eras k0 (w.alloc o) hk hl (hN.below (hb0 o))
  have e1 : ((k0 + cntRegister m : Nat) : Int) = ((k0 + cntEraS m.eras : Nat) : Int) := rfl
  rw [e1]
  have HI := dH fun (W : World) (h : Sits (OwEraS lo hi sv (mkEraS k0 m.eras)) lo hi W) => h.imp fun W hW => (show OwRegister lo hi (.agg #[sv, .int .i64 m.trim]) (mkRegister k0 m) W from ⟨sv, rfl, hW⟩)
  obtain ⟨a, cap, rfl, -⟩ := formK (OwK.rd hn)
  clear h hN hk hl e1 hn
  go_enter Tryz.func50, Tryz.ntmps50
  go_wp2_with fail
  refine (dU C1 _).mono ?_
  rintro e w1 ⟨rfl, o1, d1⟩
  have q1 := dH (dU HI _ o1)
  have D1 := dH ((Wr.of_below (hb0 _)).trans d1)
  clear o1 d1 C1 hb0 HI
  go_wp2
  go_ret
  exact ⟨rfl, dU q1, dU D1⟩
def firstO : List Er → Nat
 | [] => 0
 | e :: l => if e.closed then (if firstO l = 0 then 0 else firstO l + 1) else 1
theorem firstO_le : ∀ ms : List Er, firstO ms ≤ ms.length
 | [] => Nat.le_refl _
 | e :: l => by
  have := firstO_le l
  unfold firstO
  split
  ·split <;> simp <;> omega
  ·simp
theorem firstO_none : ∀ ms : List Er, (∀ i (h : i < ms.length), ms[i].closed = true) → firstO ms = 0
 | [], _ => rfl
 | e :: l, h => by
  have h0 : e.closed = true := h 0 (by simp)
  have h1 := firstO_none l fun i hi => h (i + 1) (by simpa using hi)
  unfold firstO
  rw [if_pos h0, if_pos h1]
theorem firstO_at : ∀ (ms : List Er) (k : Nat) (hk : k < ms.length), (∀ i (h : i < ms.length), i < k → ms[i].closed = true) → ms[k].closed = false → firstO ms = k + 1
 | [], k, hk, _, _ => by simp at hk
 | e :: l, 0, hk, _, ho => by
  have h0 : e.closed = false := ho
  unfold firstO
  rw [h0]
  rfl
 | e :: l, k + 1, hk, h, ho => by
  have h0 : e.closed = true := h 0 (by simp) (by omega)
  have h1 := firstO_at l k (by simpa using hk) (fun i hi hik => h (i + 1) (by simpa using hi) (by omega)) (by simpa using ho)
  unfold firstO
  rw [if_pos h0, if_neg (by omega), h1]
theorem firstO_pos {ms : List Er} (h : firstO ms ≠ 0) : ∃ k, ∃ hk : k < ms.length, firstO ms = k + 1 ∧ ms[k].closed = false ∧ ∀ i (hi : i < ms.length), i < k → ms[i].closed = true := by
 induction ms with
 | nil => exact absurd rfl h
 | cons e l ih =>
  cases hc : e.closed with
  | false => exact ⟨0, by simp, by unfold firstO; rw [hc]; rfl, hc, fun i hi h' => by omega⟩
  | true =>
   have e1 : firstO (e :: l) = if firstO l = 0 then 0 else firstO l + 1 := by conv => lhs; unfold firstO; rw [if_pos hc]
   by_cases h0 : firstO l = 0
   ·rw [e1, if_pos h0] at h; exact absurd rfl h
   ·obtain ⟨k, hk, q1, q2, q3⟩ := ih h0
    refine ⟨k + 1, by simpa using hk, by rw [e1, if_neg h0, q1], by simpa using q2, fun i hi hik => ?_⟩
    cases i with
    | zero => exact hc
    | succ i => simpa using q3 i (by simpa using hi) (by omega)
theorem firstO_zero {ms : List Er} (h : firstO ms = 0) : ∀ i (hi : i < ms.length), ms[i].closed = true := by
 induction ms with
 | nil => intro i hi; simp at hi
 | cons e l ih =>
  cases hc : e.closed with
  | false =>
   have e1 : firstO (e :: l) = 1 := by unfold firstO; rw [hc]; rfl
   omega
  | true =>
   have e1 : firstO (e :: l) = if firstO l = 0 then 0 else firstO l + 1 := by conv => lhs; unfold firstO; rw [if_pos hc]
   by_cases h0 : firstO l = 0
   ·intro i hi
    cases i with
    | zero => exact hc
    | succ i => simpa using ih h0 i (by simpa using hi)
   ·rw [e1, if_neg h0] at h; omega
set_option maxHeartbeats 2000000 in
theorem specFirst_any (v : Value) (m : Rg) (w : World) (hv : RdRegister v m w) :
  Calls Tryz.prog 112 #[v] w fun e w' => e = .returned (.int .i64 (firstO m.eras : Int)) ∧ Below w.heap.size w w' := by
 obtain ⟨sv, rfl, hv⟩ := hv
 obtain ⟨tr, hr⟩ : ∃ tr, m.trim = tr := ⟨_, rfl⟩
 rw [hr]
 generalize hm : m.eras = ms at *
 clear hm hr
 obtain ⟨rs, rfl, hr, -⟩ := hv
 have hl0 := hr.1
 have HV := dH fun W (hb : Below w.heap.size w W) => hr.below hb
 obtain ⟨-, a, cap, rfl, -, -⟩ := hr
 have FN : Hid ((∀ i (h : i < rs.length), rs[i].m.closed = true) → firstO (rs.map Nst.m) = 0) := fun h => firstO_none _ fun i hi => by rw [List.getElem_map]; exact h i (by simpa using hi)
 have FA : Hid (∀ k (hk : k < rs.length), (∀ i (h : i < rs.length), i < k → rs[i].m.closed = true) → rs[k].m.closed = false → firstO (rs.map Nst.m) = k + 1) := fun k hk h1 h2 => firstO_at _ k (by simpa using hk) (fun i hi hik => by rw [List.getElem_map]; exact h1 i (by simpa using hi) hik) (by rw [List.getElem_map]; exact h2)
 generalize firstO (rs.map Nst.m) = F at *
 have ba : Below w.heap.size w (w.alloc (.cells #[.slice a rs.length cap, .int .i64 tr] 42)) := (Below.refl _ _).alloc (Nat.le_refl _) _
 have X0 := Bx.new w [.slice a rs.length cap, .int .i64 tr] 42
 go_enter Tryz.func112, Tryz.ntmps112
 go_wp2
 have k0 := X0 0 _ rfl
 have HR := dH (dU HV _ ba)
 generalize w.alloc (.cells #[.slice a rs.length cap, .int .i64 tr] 42) = w0 at *
 clear HV X0
 go_loopw [3] (fun x wr => ∃ k : Nat, x = .int .i64 (k : Int) ∧ k ≤ rs.length ∧ Hid (∀ i (h : i < rs.length), i < k → rs[i].m.closed = true) ∧ wr = w0) (fun x _ => rs.length - (intOf x).toNat)
 case atStart => exact ⟨0, rfl, Nat.zero_le _, fun i h h' => by omega, rfl⟩
 case round =>
  obtain ⟨k, rfl, hk, hc, rfl⟩ := hrel
  by_cases hlt : (k : Int) < (rs.length : Int)
  ·have hkl : k < rs.length := by omega
   obtain ⟨b, off, rfl, he⟩ := (dU HR).era hkl
   have c1 := (he k hkl).2.1
   cases hcl : rs[k].m.closed with
   | true =>
    rw [hcl] at c1
    have H2 : Hid (∀ i (h : i < rs.length), i < k + 1 → rs[i].m.closed = true) := fun i h hi => by
     by_cases e : i = k
     ·subst e; exact hcl
     ·exact dU hc i h (by omega)
    clear hc he
    go_wp2
    go_roundw
    case rel => exact ⟨k + 1, by go_num, by omega, H2, by trivial⟩
    case measure => simp [intOf]; omega
   | false =>
    rw [hcl] at c1
    have e1 := dU FA k hkl (dU hc) hcl
    have e2 : Hid ((F : Int) = (k : Int) + 1) := by rw [Hid, e1]; omega
    clear hc he FN FA e1
    go_wp2
    go_ret
    exact ⟨by rw [dU e2]; go_num, ba⟩
  ·have e1 := dU FN fun i h => dU hc i h (by omega)
   clear hc FN FA
   go_wp2
   go_ret
   exact ⟨by first | rfl | (rw [e1]; rfl), ba⟩
def idxQ {α : Type} (q : α → Bool) : List α → Int
 | [] => -1
 | e :: l => if q e then 0 else (if idxQ q l = -1 then -1 else idxQ q l + 1)
theorem idxQ_ge {α : Type} (q : α → Bool) : ∀ l : List α, -1 ≤ idxQ q l ∧ idxQ q l < l.length
 | [] => by simp [idxQ]
 | e :: l => by
  have := idxQ_ge q l
  unfold idxQ
  split
  ·simp <;> omega
  ·split <;> simp <;> omega
theorem idxQ_none {α : Type} (q : α → Bool) : ∀ l : List α, (∀ i (h : i < l.length), q l[i] = false) → idxQ q l = -1
 | [], _ => rfl
 | e :: l, h => by
  have h0 : q e = false := h 0 (by simp)
  have h1 := idxQ_none q l fun i hi => h (i + 1) (by simpa using hi)
  unfold idxQ
  rw [h0, h1]
  rfl
theorem idxQ_at {α : Type} (q : α → Bool) : ∀ (l : List α) (k : Nat) (hk : k < l.length), (∀ i (h : i < l.length), i < k → q l[i] = false) → q l[k] = true → idxQ q l = (k : Int)
 | [], k, hk, _, _ => by simp at hk
 | e :: l, 0, hk, _, ho => by
  have h0 : q e = true := ho
  unfold idxQ
  rw [h0]
  rfl
 | e :: l, k + 1, hk, h, ho => by
  have h0 : q e = false := h 0 (by simp) (by omega)
  have h1 := idxQ_at q l k (by simpa using hk) (fun i hi hik => h (i + 1) (by simpa using hi) (by omega)) (by simpa using ho)
  unfold idxQ
  rw [h0, h1, if_neg (by simp), if_neg (by omega)]
  omega
theorem idxQ_neg {α : Type} {q : α → Bool} {l : List α} : idxQ q l = -1 ↔ ∀ e ∈ l, q e = false := by
 induction l with
 | nil => simp [idxQ]
 | cons e l ih =>
  have hg := idxQ_ge q l
  unfold idxQ
  cases hq : q e with
  | true => simp [hq]
  | false =>
   rw [if_neg (by simp)]
   by_cases h : idxQ q l = -1
   ·rw [if_pos h]
    simp only [List.mem_cons, true_iff]
    rintro x (rfl | hx)
    ·exact hq
    ·exact ih.1 h x hx
   ·rw [if_neg h]
    constructor
    ·intro h'; omega
    ·intro h'
     exact absurd (ih.2 fun x hx => h' x (List.mem_cons_of_mem _ hx)) h
set_option maxHeartbeats 2000000 in
theorem indexFunc_any (v : Value) (rs : List (Nst Er)) (F : Nat) (caps : Array Value) (q : Er → Bool) (w : World) (hF : ∀ args w, (callFunc F args).run Tryz.prog w = .ok (.enter F args) w) (hr : Rw 3 erCl w v rs)
  (hq : ∀ W, Below w.heap.size w W → ∀ k (hk : k < rs.length), Calls Tryz.prog F (#[.agg #[.slice rs[k].a rs[k].m.nodes.length rs[k].c, .bool rs[k].m.closed, .int .i64 rs[k].m.last]] ++ caps) W fun e w' => e = .returned (.bool (q rs[k].m)) ∧ Below W.heap.size W w') :
  Calls Tryz.prog 185 #[v, .func (.func F) #[] caps] w fun e w' => e = .returned (.int .i64 (idxQ q (rs.map Nst.m))) ∧ Below w.heap.size w w' := by
 have HV := dH fun W (hb : Below w.heap.size w W) => hr.below hb
 have HQ := dH hq
 have hl0 := hr.1
 obtain ⟨-, a, cap, rfl, -, -⟩ := hr
 have FN : Hid ((∀ i (h : i < rs.length), q rs[i].m = false) → idxQ q (rs.map Nst.m) = -1) := fun h => idxQ_none _ _ fun i hi => by rw [List.getElem_map]; exact h i (by simpa using hi)
 have FA : Hid (∀ k (hk : k < rs.length), (∀ i (h : i < rs.length), i < k → q rs[i].m = false) → q rs[k].m = true → idxQ q (rs.map Nst.m) = (k : Int)) := fun k hk h1 h2 => idxQ_at _ _ k (by simpa using hk) (fun i hi hik => by rw [List.getElem_map]; exact h1 i (by simpa using hi) hik) (by rw [List.getElem_map]; exact h2)
 generalize idxQ q (rs.map Nst.m) = M at *
 clear hq
 go_enter Tryz.func185, Tryz.ntmps185
 go_wp2
 go_loopw [8] (fun x wr => ∃ k : Nat, x = .int .i64 (k : Int) ∧ k ≤ rs.length ∧ Hid (∀ i (h : i < rs.length), i < k → q rs[i].m = false) ∧ Below w.heap.size w wr) (fun x _ => rs.length - (intOf x).toNat)
 case atStart => exact ⟨0, rfl, Nat.zero_le _, fun i h h' => by omega, Below.refl _ _⟩
 case round =>
  obtain ⟨k, rfl, hk, hc, hb⟩ := hrel
  by_cases hlt : (k : Int) < (rs.length : Int)
  ·have hkl : k < rs.length := by omega
   obtain ⟨b, off, rfl, he⟩ := (dU HV _ hb).era hkl
   obtain ⟨c0, c1, c2⟩ := he k hkl
   have CE := dH (dU HQ wr hb k hkl)
   cases hcl : q rs[k].m with
   | false =>
    rw [hcl] at CE
    have H2 : Hid (∀ i (h : i < rs.length), i < k + 1 → q rs[i].m = false) := fun i h hi => by
     by_cases e : i = k
     ·subst e; exact hcl
     ·exact dU hc i h (by omega)
    generalize rs[k] = y at *
    obtain ⟨ya, yc, yn, yb, yl⟩ := y
    simp only at *
    clear hc he
    go_wp2_with fail
    refine (dU CE).mono ?_
    rintro e w1 ⟨rfl, b1⟩
    clear CE c0 c1 c2
    go_wp2
    go_roundw
    case rel => exact ⟨k + 1, by go_num, by omega, H2, bT hb b1⟩
    case measure => simp [intOf]; omega
   | true =>
    rw [hcl] at CE
    have e1 := dU FA k hkl (dU hc) hcl
    subst e1
    generalize rs[k] = y at *
    obtain ⟨ya, yc, yn, yb, yl⟩ := y
    simp only at *
    clear hc he FN FA
    go_wp2_with fail
    refine (dU CE).mono ?_
    rintro e w1 ⟨rfl, b1⟩
    clear CE c0 c1 c2
    go_wp2
    go_ret
    exact ⟨rfl, bT hb b1⟩
  ·have e1 := dU FN fun i h => dU hc i h (by omega)
   subst e1
   clear hc FN FA
   go_wp2
   go_ret
   exact ⟨rfl, hb⟩
theorem firstOpenFn (p : Nst Er) (w : World) : Calls Tryz.prog 186 #[.agg #[.slice p.a p.m.nodes.length p.c, .bool p.m.closed, .int .i64 p.m.last]] w fun e w' => e = .returned (.bool (!p.m.closed)) ∧ Below w.heap.size w w' := by
 obtain ⟨pa, pc, yn, yb, yl⟩ := p
 simp only at *
 go_enter Tryz.func186, Tryz.ntmps186
 go_wp2
 go_ret
 exact ⟨rfl, (Below.refl _ _).alloc (Nat.le_refl _) _⟩
theorem idxQ_first (ms : List Er) : idxQ (fun e => !e.closed) ms + 1 = (firstO ms : Int) := by
 induction ms with
 | nil => rfl
 | cons e l ih =>
  have hg := idxQ_ge (fun e : Er => !e.closed) l
  unfold idxQ firstO
  cases hc : e.closed with
  | false => rfl
  | true =>
   simp only [Bool.not_true, if_true]
   rw [if_neg (by decide)]
   by_cases h0 : firstO l = 0
   ·rw [if_pos h0, if_pos (by omega)]; rfl
   ·rw [if_neg h0, if_neg (by omega)]; omega
set_option maxHeartbeats 1000000 in
theorem implFirst_any (v : Value) (m : Rg) (w : World) (hv : RdRegister v m w) (hs : m.eras.length ≤ 1048576) :
  Calls Tryz.prog 137 #[v] w fun e w' => e = .returned (.int .i64 (firstO m.eras : Int)) ∧ Below w.heap.size w w' := by
 obtain ⟨sv, rfl, rs, hm, hr, -⟩ := hv
 have ba : ∀ o, Below w.heap.size w (w.alloc o) := fun o => (Below.refl _ _).alloc (Nat.le_refl _) o
 have C1 := dH fun W (hb : Below w.heap.size w W) => indexFunc_any sv rs 186 #[] (fun e => !e.closed) W Tryz.call186 (hr.below hb) (fun W' _ k hk => firstOpenFn rs[k] W')
 rw [hm] at C1
 have e1 := idxQ_first m.eras
 have h1 := idxQ_ge (fun e : Er => !e.closed) m.eras
 obtain ⟨-, a, cap, rfl, -, -⟩ := hr
 have e2 : Hid ((firstO m.eras : Int) = 1 + idxQ (fun e => !e.closed) m.eras) := by rw [Hid]; omega
 rw [dU e2]
 generalize idxQ (fun e : Er => !e.closed) m.eras = M at *
 generalize m.trim = tr at *
 clear e1 e2 hm
 go_enter Tryz.func137, Tryz.ntmps137
 go_wp2_with fail
 refine (dU C1 _ (ba _)).mono ?_
 rintro e w1 ⟨rfl, b1⟩
 have B1 := bT (ba _) b1
 clear b1 ba C1
 go_wp2
 go_ret
 exact ⟨rfl, B1⟩
theorem lastEpoch_any (v : Value) (m : Rg) (w : World) (hv : RdRegister v m w) :
  Calls Tryz.prog 136 #[v] w fun e w' => e = .returned (.int .i64 (m.eras.length : Int)) ∧ Below w.heap.size w w' := by
 obtain ⟨a, cap, rfl, -⟩ := formRegister hv
 clear hv
 go_enter Tryz.func136, Tryz.ntmps136
 go_wp2
 go_ret
 exact ⟨rfl, (Below.refl _ _).alloc (Nat.le_refl _) _⟩
set_option maxHeartbeats 1000000 in
theorem hasEpoch_any (v : Value) (m : Rg) (x : Int) (w : World) (hv : RdRegister v m w) (ok : okInt x) (hs : m.eras.length ≤ 1048576) :
  Calls Tryz.prog 132 #[v, .int .i64 x] w fun e w' => RetB (1 ≤ x ∧ x ≤ (m.eras.length : Int)) e ∧ Below w.heap.size w w' := by
 have ba : ∀ o, Below w.heap.size w (w.alloc o) := fun o => (Below.refl _ _).alloc (Nat.le_refl _) o
 have C1 := dH fun W (hb : Below w.heap.size w W) => lastEpoch_any v m W (hv.below hb)
 obtain ⟨a, cap, rfl, -⟩ := formRegister hv
 obtain ⟨o1, o2⟩ := ok
 generalize m.trim = tr at *
 clear hv
 by_cases h1 : x ≥ 1
 ·go_enter Tryz.func132, Tryz.ntmps132
  go_wp2_with fail
  refine (dU C1 _ (ba _)).mono ?_
  rintro e w1 ⟨rfl, b1⟩
  have B1 := bT (ba _) b1
  clear b1 ba C1
  have R : RetB (1 ≤ x ∧ x ≤ (m.eras.length : Int)) (.returned (.bool (decide (x ≤ (m.eras.length : Int))))) := ⟨_, rfl, by rw [decide_eq_true_iff]; exact ⟨fun h => ⟨h1, h⟩, fun h => h.2⟩⟩
  go_wp2
  go_ret
  exact ⟨R, B1⟩
 ·have R : RetB (1 ≤ x ∧ x ≤ (m.eras.length : Int)) (.returned (.bool false)) := RetB.no fun h => h1 h.1
  go_enter Tryz.func132, Tryz.ntmps132
  go_wp2
  go_ret
  exact ⟨R, ba _⟩
end Go.Proofs.YtkiclbbialadlaaGreat
