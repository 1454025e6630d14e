/- Eras and registers, as the exact laws handle them: marked, held. -/
import Derived.Test.YtioocibgfhgkhaaGreatDoorSitS
namespace Go.Proofs.YtioocibgfhgkhaaGreatDoor
open Go.ChangeShapes Go.WideShapes Go.ChangeAt Go.RowKit
set_option linter.unusedVariables false
set_option linter.unusedSimpArgs false
set_option maxRecDepth 100000

/-- Eras of which the first k are marked. -/
def mkF (k0 : Nat) (rs : List (Nst Er)) (k : Nat) (i : Nat) : Nst Er :=
  if i < k then ⟨(rs.getD i zeroEr).a, (rs.getD i zeroEr).c, mkEr (k0 + cntEraS ((rs.map Nst.m).take i)) (rs.getD i zeroEr).m⟩ else rs.getD i zeroEr
theorem mkF_nodes (k0 : Nat) (rs : List (Nst Er)) (k i : Nat) : (mkF k0 rs k i).m.nodes.length = (rs.getD i zeroEr).m.nodes.length ∧ Sv Er.nodes (mkF k0 rs k i) = Sv Er.nodes (rs.getD i zeroEr) := by
  unfold mkF
  split
  · have e : (mkEr (k0 + cntEraS ((rs.map Nst.m).take i)) (rs.getD i zeroEr).m).nodes.length = (rs.getD i zeroEr).m.nodes.length := marksN_len _ _
    refine ⟨e, ?_⟩
    unfold Sv
    simp only [e]
  · exact ⟨rfl, rfl⟩
/-- The state of marking. -/
def MarkK (lo hi k0 : Nat) (w wr : World) (b off : Nat) (rs : List (Nst Er)) (k : Nat) : Prop :=
  RowG 3 erCl wr b off rs.length (mkF k0 rs k) ∧ (∀ i, i < rs.length → OwN lo hi (Sv Er.nodes (mkF k0 rs k i)) (mkF k0 rs k i).m.nodes wr) ∧ Wr lo hi w wr ∧ hi ≤ wr.heap.size
/-- One era is marked. -/
theorem MarkK.step {lo hi k0 : Nat} {w wr w2 : World} {b off k : Nat} {rs : List (Nst Er)} {v : Value} (h : MarkK lo hi k0 w wr b off rs k) (hk : k < rs.length) (hb1 : lo ≤ b) (hb2 : b < hi) (hA : Apart Er.nodes v rs) (hv : blockOf v = b)
    (hO : OwN lo hi (Sv Er.nodes rs[k]) (marksN (k0 + cntEraS ((rs.map Nst.m).take k)) rs[k].m.nodes.length) w2) (b1 b2 : Nat) (hW : Wr b1 b2 wr w2) (hd : (rs[k].m.nodes = [] ∧ b1 = 0 ∧ b2 = 0) ∨ (rs[k].m.nodes ≠ [] ∧ b1 = blockOf (Sv Er.nodes rs[k]) ∧ b2 = blockOf (Sv Er.nodes rs[k]) + 1)) (hW' : Wr lo hi wr w2) :
    RowG 3 erCl w2 b off rs.length (mkF k0 rs k) ∧ MarkK lo hi k0 w ((w2.setCell ⟨b, off + k * 3 + 1, none⟩ (.bool ((k0 + cntEraS ((rs.map Nst.m).take k) + rs[k].m.nodes.length) % 3 == 0))).setCell ⟨b, off + k * 3 + 2, none⟩ (.int .i64 ((k0 + cntEraS ((rs.map Nst.m).take k) + rs[k].m.nodes.length + 1 : Nat) : Int))) b off rs (k + 1) := by
  obtain ⟨h1, h2, h3, h4⟩ := h
  have ek : mkF k0 rs k k = rs[k] := by unfold mkF; rw [if_neg (by omega), getD_lt _ hk]
  have ek1 : mkF k0 rs (k + 1) k = ⟨rs[k].a, rs[k].c, mkEr (k0 + cntEraS ((rs.map Nst.m).take k)) rs[k].m⟩ := by unfold mkF; rw [if_pos (by omega), getD_lt _ hk]
  have ei : ∀ i, i ≠ k → mkF k0 rs (k + 1) i = mkF k0 rs k i := fun i hi => by
    unfold mkF
    by_cases e : i < k
    · rw [if_pos (by omega), if_pos e]
    · rw [if_neg (by omega), if_neg e]
  have hR : RowG 3 erCl w2 b off rs.length (mkF k0 rs k) := h1.wr hW (by
    rcases hd with ⟨-, rfl, rfl⟩ | ⟨hn, rfl, rfl⟩
    · exact .inr (Nat.zero_le _)
    · have := (hA.2 k hk).resolve_left hn
      omega)
  refine ⟨hR, ?_, fun i hil => ?_, ?_, ?_⟩
  · have r1 := hR.put erCl_len hk 1 (by decide) (.bool ((k0 + cntEraS ((rs.map Nst.m).take k) + rs[k].m.nodes.length) % 3 == 0)) ⟨rs[k].a, rs[k].c, ⟨marksN (k0 + cntEraS ((rs.map Nst.m).take k)) rs[k].m.nodes.length, _, rs[k].m.last⟩⟩ (by rw [ek]; unfold erCl Sv; simp only [marksN_len]; rfl)
    have r2 := r1.put erCl_len hk 2 (by decide) (.int .i64 ((k0 + cntEraS ((rs.map Nst.m).take k) + rs[k].m.nodes.length + 1 : Nat) : Int)) ⟨rs[k].a, rs[k].c, mkEr (k0 + cntEraS ((rs.map Nst.m).take k)) rs[k].m⟩ (by rw [putG_same]; rfl)
    rw [putG_twice] at r2
    refine r2.congr fun i hi => ?_
    by_cases e : i = k
    · subst e
      rw [putG_same, ek1]
    · rw [putG_ne _ _ e, ei i e]
  · have far : ∀ {v : Value} {xs : List Int} (u u' : Value), OwN lo hi v xs w2 → (xs = [] ∨ blockOf v ≠ b) → OwN lo hi v xs ((w2.setCell ⟨b, off + k * 3 + 1, none⟩ u).setCell ⟨b, off + k * 3 + 2, none⟩ u') := fun {v xs} u u' q hb => (q.putW hb _).putW hb _
    by_cases e : i = k
    · subst e
      have eS := (mkF_nodes k0 rs (i + 1) i).2
      rw [getD_lt _ hk] at eS
      rw [eS, ek1]
      refine far _ _ hO ?_
      rcases hA.2 i hk with h | h
      · left
        exact (nil_of_len (marksN_len _ _)).2 h
      · right
        rw [← hv]; exact h
    · rw [ei i e]
      obtain ⟨eN, eS⟩ := mkF_nodes k0 rs k i
      rw [getD_lt _ hil] at eN eS
      have q := h2 i hil
      have q1 : OwN lo hi (Sv Er.nodes (mkF k0 rs k i)) (mkF k0 rs k i).m.nodes w2 := q.wr hW (by
        rcases hd with ⟨-, rfl, rfl⟩ | ⟨hn, rfl, rfl⟩
        · exact .inr (.inr (Nat.zero_le _))
        · rcases hA.1 i k hil hk e with h | h | h
          · exact .inl ((nil_of_len eN).2 h)
          · exact absurd h hn
          · rw [eS]
            exact .inr (by omega))
      refine far _ _ q1 ?_
      rcases hA.2 i hil with h | h
      · exact .inl ((nil_of_len eN).2 h)
      · right
        rw [eS, ← hv]; exact h
  · exact ((h3.trans hW').setW hb1 hb2 _).setW hb1 hb2 _
  · have := hW'.size
    simp
    omega
set_option maxHeartbeats 4000000 in
theorem markEraS_ (lo hi : Nat) (v : Value) (m : List Er) (k0 : Nat) (w : World) (hk : k0 ≤ 536870912) (hl : cntEraS m ≤ 536870912) (h : Sits (OwEraS lo hi v m) lo hi w) :
    Calls Tryz.prog 33 #[v, .int .i64 (k0 : Int)] w fun e w' => e = .returned (.int .i64 ((k0 + cntEraS m : Nat) : Int)) ∧ Sits (OwEraS lo hi v (mkEraS k0 m)) lo hi w' ∧ Wr lo hi w w' := by
  obtain ⟨rs, rfl, hO, hB, hN, hA⟩ := h.now
  have hfit := h.fit
  have hlen : rs.length ≤ 268435456 := by unfold cntEraS at hl; rw [List.length_map] at hl; omega
  obtain ⟨-, a, cap, rfl, hcap, -⟩ := hO.rw
  rcases Nat.eq_zero_or_pos rs.length with h0 | h0
  · have hm : rs = [] := List.length_eq_zero_iff.1 h0
    subst hm
    have e1 : mkEraS k0 (List.map Nst.m ([] : List (Nst Er))) = [] := rfl
    have e2 : k0 + cntEraS (List.map Nst.m ([] : List (Nst Er))) = k0 := rfl
    rw [e1, e2]
    have h' : Sits (OwEraS lo hi (.slice a ([] : List (Nst Er)).length cap) []) lo hi w := h
    clear hl hO hB e1 e2 hN hA h
    go_enter Tryz.func33, Tryz.ntmps33
    go_wp2
    go_rounds 1
    go_ret
    exact ⟨rfl, h', Wr.refl _ _ _⟩
  · obtain ⟨b, off, rfl, hb1, Z0⟩ := hO.rowG h0 zeroEr
    have hb2 : b < hi := by
      rcases hB with h | h
      · rw [h] at h0; simp at h0
      · exact h
    have HS : Hid (∀ k (hk : k < rs.length), rs[k].m.nodes.length ≤ 536870912 ∧ cntEraS ((rs.map Nst.m).take (k + 1)) = cntEraS ((rs.map Nst.m).take k) + rs[k].m.nodes.length + 2 ∧ cntEraS ((rs.map Nst.m).take (k + 1)) ≤ 536870912) := fun k hk => by
      have h1 := cntEraS_take (rs.map Nst.m) k (by simpa using hk)
      have h2 := cntEraS_le' (rs.map Nst.m) (k + 1)
      rw [List.getElem_map] at h1
      exact ⟨by omega, h1, by omega⟩
    have M0 : MarkK lo hi k0 w w b off rs 0 := ⟨Z0.congr fun i hi => by unfold mkF; rw [if_neg (by omega)], fun i hi => by
      have e : mkF k0 rs 0 i = rs[i] := by unfold mkF; rw [if_neg (by omega), getD_lt _ hi]
      rw [e]
      exact hN _ (List.getElem_mem hi), Wr.refl _ _ _, hfit⟩
    have FIN : Hid (∀ W : World, MarkK lo hi k0 w W b off rs rs.length → Sits (OwEraS lo hi (.slice (some ⟨b, off, none⟩) rs.length cap) (mkEraS k0 (rs.map Nst.m))) lo hi W) := fun W ⟨h1, h2, h3, h4⟩ => by
      have q := OwK.build (sub := Er.nodes) (lo := lo) (hi := hi) (cap := cap) h1 hb1 (.inr hb2) hcap h2 (fun i j hi hj hij => by
        obtain ⟨eN, eS⟩ := mkF_nodes k0 rs rs.length i
        obtain ⟨eN', eS'⟩ := mkF_nodes k0 rs rs.length j
        rw [getD_lt _ hi] at eN eS
        rw [getD_lt _ hj] at eN' eS'
        rw [eS, eS', nil_of_len eN, nil_of_len eN']
        exact hA.1 i j hi hj hij) (fun i hi => by
        obtain ⟨eN, eS⟩ := mkF_nodes k0 rs rs.length i
        rw [getD_lt _ hi] at eN eS
        rw [eS, nil_of_len eN]
        exact hA.2 i hi)
      rw [range_map_m (ms := mkEraS k0 (rs.map Nst.m)) (by rw [mkEraS_len, List.length_map]) (fun i hi => by
        have hi' : i < rs.length := by rw [mkEraS_len, List.length_map] at hi; exact hi
        rw [mkEraS_at k0 (rs.map Nst.m) i (by simpa using hi'), List.getElem_map]
        unfold mkF
        rw [if_pos hi', getD_lt _ hi'])] at q
      exact OwK.sits q h4
    have HA := dHide hA
    have hcn : Hid (cntEraS ((rs.map Nst.m).take rs.length) = cntEraS (rs.map Nst.m)) := by rw [Hid, List.take_of_length_le (by simp)]
    have HM0 := dHide M0
    clear h hO hB Z0 hN hA M0 hl
    go_enter Tryz.func33, Tryz.ntmps33
    go_wp2
    go_loopw [5, 1] (fun x y wr => ∃ (k K : Nat), x = .int .i64 (k : Int) ∧ y = .int .i64 (K : Int) ∧ k ≤ rs.length ∧ K ≤ 1073741824 ∧ Hid (K = k0 + cntEraS ((rs.map Nst.m).take k)) ∧ Hid (MarkK lo hi k0 w wr b off rs k)) (fun x _ _ => rs.length - (intOf x).toNat)
    case atStart => exact ⟨0, k0, rfl, rfl, Nat.zero_le _, by omega, rfl, dUnhide HM0⟩
    case round =>
      obtain ⟨k, K, rfl, rfl, hkk, hKb, hK, hM⟩ := hrel
      by_cases hlt : (k : Int) < (rs.length : Int)
      · have hkl : k < rs.length := by omega
        obtain ⟨s1, s2, s3⟩ := dUnhide HS k hkl
        have ek : mkF k0 rs k k = rs[k] := by unfold mkF; rw [if_neg (by omega), getD_lt _ hkl]
        obtain ⟨z0, f0⟩ := (dUnhide hM).1 k hkl 0 _ rfl
        have ek' := ek
        have CT := dHide (markN_in lo hi (Sv Er.nodes rs[k]) rs[k].m.nodes K wr (by omega) (by omega) (dUnhide hM).2.2.2 (by have := (dUnhide hM).2.1 k hkl; rw [ek] at this; exact this))
        have ST : Hid (∀ w2, OwN lo hi (Sv Er.nodes rs[k]) (marksN K rs[k].m.nodes.length) w2 → ∀ b1 b2, Wr b1 b2 wr w2 → ((rs[k].m.nodes = [] ∧ b1 = 0 ∧ b2 = 0) ∨ (rs[k].m.nodes ≠ [] ∧ b1 = blockOf (Sv Er.nodes rs[k]) ∧ b2 = blockOf (Sv Er.nodes rs[k]) + 1)) → Wr lo hi wr w2 →
            RowG 3 erCl w2 b off rs.length (mkF k0 rs k) ∧ MarkK lo hi k0 w ((w2.setCell ⟨b, off + k * 3 + 1, none⟩ (.bool ((K + rs[k].m.nodes.length) % 3 == 0))).setCell ⟨b, off + k * 3 + 2, none⟩ (.int .i64 ((K + rs[k].m.nodes.length + 1 : Nat) : Int))) b off rs (k + 1)) := fun w2 hO b1 b2 hW hd hW' => by
          have hK' := dUnhide hK
          subst hK'
          exact (dUnhide hM).step hkl hb1 hb2 (dUnhide HA) rfl hO b1 b2 hW hd hW'
        have hK2 : Hid (K + rs[k].m.nodes.length + 2 = k0 + cntEraS ((rs.map Nst.m).take (k + 1))) := by rw [Hid, s2, dUnhide hK]; omega
        have hKb2 : K + rs[k].m.nodes.length + 2 ≤ 1073741824 := by rw [dUnhide hK2]; omega
        unfold Sv at CT ST
        simp only [ek, Sv, Nat.add_zero] at z0 f0
        have em : (((K + rs[k].m.nodes.length : Nat) : Int) % 3 == 0) = ((K + rs[k].m.nodes.length) % 3 == 0) := mod3_eq _
        generalize hy : rs[k] = y at *
        obtain ⟨ya, yc, yn, yb, yl⟩ := y
        simp only at *
        clear hM s1 s2 s3
        go_wp2_with fail
        refine (dUnhide CT).mono ?_
        rintro r w2 ⟨rfl, o2, ⟨b1, b2, d1, hd1⟩, d2⟩
        obtain ⟨R2, M2⟩ := dUnhide ST w2 o2 b1 b2 d1 hd1 d2
        obtain ⟨z1, f1⟩ := R2 k hkl 1 _ rfl
        obtain ⟨z2, f2⟩ := R2 k hkl 2 _ rfl
        have HM2 := dHide M2
        clear CT ST o2 d1 hd1 d2 z0 f0 R2 M2
        rw [← em] at HM2
        have e3 : ((K + yn.length + 1 : Nat) : Int) = ((K + yn.length : Nat) : Int) + 1 := by omega
        have e4 : ((K + yn.length + 2 : Nat) : Int) = ((K + yn.length : Nat) : Int) + 1 + 1 := by omega
        rw [e3] at HM2
        have G := dHide (show ∃ (k' K' : Nat), (Value.int .i64 ((k : Int) + 1)) = .int .i64 (k' : Int) ∧ (Value.int .i64 (((K + yn.length : Nat) : Int) + 1 + 1)) = .int .i64 (K' : Int) ∧ k' ≤ rs.length ∧ K' ≤ 1073741824 ∧ Hid (K' = k0 + cntEraS ((rs.map Nst.m).take k')) ∧ k' = k + 1 from ⟨k + 1, K + yn.length + 2, by rw [Int.natCast_add]; rfl, by rw [e4], by omega, hKb2, hK2, rfl⟩)
        have hq : (K + yn.length : Nat) ≤ 1073741824 := by omega
        generalize (K + yn.length : Nat) = q at *
        clear e3 e4 em hK2 hKb2
        go_wp2
        go_roundw
        case rel =>
          obtain ⟨k', K', g1, g2, g3, g4, g5, rfl⟩ := dUnhide G
          exact ⟨k + 1, K', by go_num, by first | exact g2 | (rw [← g2]; go_num), g3, g4, g5, dUnhide HM2⟩
        case measure => simp [intOf]; omega
      · have e1 : k = rs.length := by omega
        subst e1
        have e2 : Hid ((K : Int) = ((k0 + cntEraS (rs.map Nst.m) : Nat) : Int)) := by rw [Hid, dUnhide hK, dUnhide hcn]
        have O := dHide (dUnhide FIN wr (dUnhide hM))
        have hw := dHide (dUnhide hM).2.2.1
        clear hM hK FIN HM0 hcn
        go_wp2
        go_ret
        exact ⟨by have e := dUnhide e2; simp only [Int.natCast_add] at e; simp [e], dUnhide O, dUnhide hw⟩
set_option maxHeartbeats 2000000 in
theorem markRegister_ (lo hi : Nat) (v : Value) (m : Rg) (k0 : Nat) (w : World) (hk : k0 ≤ 536870912) (hl : cntRegister m ≤ 536870912) (h : Sits (OwRegister lo hi v m) lo hi w) :
    Calls Tryz.prog 15 #[v, .int .i64 (k0 : Int)] w fun e w' => e = .returned (.int .i64 ((k0 + cntRegister m : Nat) : Int)) ∧ Sits (OwRegister lo hi v (mkRegister k0 m)) lo hi w' ∧ Wr lo hi w w' := by
  obtain ⟨sv, rfl, hn⟩ := h.now
  have hN : Sits (OwEraS lo hi sv m.eras) lo hi w := h.imp fun W ⟨sv', h1, h2⟩ => by cases h1; exact h2
  have hb0 : ∀ o, Below w.heap.size w (w.alloc o) := fun o => (Below.refl _ _).alloc (Nat.le_refl _) o
  have C1 := dHide fun o => markEraS_ lo hi sv m.eras k0 (w.alloc o) hk hl (hN.below (hb0 o))
  have e1 : ((k0 + cntRegister m : Nat) : Int) = ((k0 + cntEraS m.eras : Nat) : Int) := rfl
  rw [e1]
  have HI := dHide fun (W : World) (h : Sits (OwEraS lo hi sv (mkEraS k0 m.eras)) lo hi W) => h.imp fun W hW => (show OwRegister lo hi (.agg #[sv, .int .i64 m.trim]) (mkRegister k0 m) W from ⟨sv, rfl, hW⟩)
  obtain ⟨a, cap, rfl, -⟩ := formK (OwK.rd hn)
  clear h hN hk hl e1 hn
  go_enter Tryz.func15, Tryz.ntmps15
  go_wp2_with fail
  refine (dUnhide C1 _).mono ?_
  rintro e w1 ⟨rfl, o1, d1⟩
  have q1 := dHide (dUnhide HI _ o1)
  have D1 := dHide ((Wr.of_below (hb0 _)).trans d1)
  clear o1 d1 C1 hb0 HI
  go_wp2
  go_ret
  exact ⟨rfl, dUnhide q1, dUnhide D1⟩
end Go.Proofs.YtioocibgfhgkhaaGreatDoor
