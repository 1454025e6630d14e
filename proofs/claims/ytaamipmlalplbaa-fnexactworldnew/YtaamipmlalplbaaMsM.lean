/- Rows of mends, marked (printed by tools/mkrowm.py). -/
import Derived.Test.YtaamipmlalplbaaDpM
import Derived.Test.YtaamipmlalplbaaMnSd
import Derived.Deep.DeepCutAuto
namespace Go.Proofs.Ytaamipmlalplbaa
open Go.ChangeShapes Go.WideShapes Go.ChangeAt Go.RowKit
set_option linter.unusedVariables false
set_option linter.unusedSimpArgs false
set_option maxRecDepth 100000

def cntMendS (ms : List Mn) : Nat := sumPd (fun m => cntMend m + 3) ms
set_option maxHeartbeats 4000000 in
theorem markMendS_w (lo hi : Nat) (v : Value) (ms : List Mn) (k0 : Nat) (w : World) (hk : k0 ≤ 134217728) (hl : cntMendS ms ≤ 134217728) (hf : hi ≤ w.heap.size) (h : OwMendS lo hi v ms w) :
    Calls Try.prog 31 #[v, .int .i64 (k0 : Int)] w fun e w' => e = .returned (.int .i64 ((k0 + cntMendS ms : Nat) : Int)) ∧ Wr lo hi w w' := by
  obtain ⟨a0, cap0, rfl, hl0⟩ := formD h.rd
  rcases OwD.marks (v := .slice a0 ms.length cap0) h hf zeroMendS with rfl | ⟨b, off, rs, s, rfl, rfl, hb1, hs0, hsp, M0⟩
  · have e2 : k0 + cntMendS [] = k0 := rfl
    rw [e2]
    clear hl h e2
    go_enter Try.func31, Try.ntmps31
    go_wp2
    go_rounds 1
    go_ret
    exact ⟨rfl, Wr.refl _ _ _⟩
  · rw [List.length_map] at *
    have HC : Hid (∀ k (hk : k < rs.length), cntMendS ((rs.map Pd.m).take (k + 1)) = cntMendS ((rs.map Pd.m).take k) + (cntMend rs[k].m + 3) ∧ cntMendS ((rs.map Pd.m).take (k + 1)) ≤ 134217728) := fun k hk => by
      have h1 := sumPd_take (fun m => cntMend m + 3) (rs.map Pd.m) k (by simpa using hk)
      have h2 := sumPd_le (fun m => cntMend m + 3) (rs.map Pd.m) (k + 1)
      rw [List.getElem_map] at h1
      unfold cntMendS at hl ⊢
      exact ⟨h1, by omega⟩
    have hcn : Hid (cntMendS ((rs.map Pd.m).take rs.length) = cntMendS (rs.map Pd.m)) := by rw [Hid, List.take_of_length_le (by simp)]
    have HSP := dHide hsp
    have HM0 := dHide M0
    clear h M0 hsp hl
    go_enter Try.func31, Try.ntmps31
    go_wp2
    go_loopw [5, 1] (fun x y wr => ∃ (k K : Nat), x = .int .i64 (k : Int) ∧ y = .int .i64 (K : Int) ∧ k ≤ rs.length ∧ K ≤ 268435456 ∧ Hid (K = k0 + cntMendS ((rs.map Pd.m).take k)) ∧ Hid (MkD OwMend lo hi w wr b off rs s k)) (fun x _ _ => rs.length - (intOf x).toNat)
    case atStart => exact ⟨0, k0, rfl, rfl, Nat.zero_le _, by omega, rfl, dUnhide HM0⟩
    case round =>
      obtain ⟨k, K, rfl, rfl, hkk, hKb, hK, hM⟩ := hrel
      by_cases hlt : (k : Int) < (rs.length : Int)
      · have hkl : k < rs.length := by omega
        obtain ⟨s1, s2⟩ := dUnhide HC k hkl
        obtain ⟨f, M, hfk, ho⟩ := (dUnhide hM).start hkl
        have hsp := dUnhide HSP
        have l1 := hsp.hi (k + 1) (by omega)
        have l2 := hsp.mono k 0 (Nat.zero_le _) (by omega)
        have hfit := M.fit
        have hF := formMend ho.rd
        obtain ⟨yc, yl, m, hy⟩ : ∃ yc yl m, rs[k] = (⟨yc, yl, m⟩ : Pd 6 Mn) := ⟨_, _, _, rfl⟩
        rw [hy] at hfk ho hF s1
        obtain ⟨sa, sc, ea, ec, wa, wc, hF, -, -, -⟩ := hF
        have hF := Pd.eq hF
        simp only at hF s1
        subst hF
        have hK2 : Hid (K + (cntMend m + 3) = k0 + cntMendS ((rs.map Pd.m).take (k + 1))) := by rw [Hid, s1, dUnhide hK]; omega
        have hKb2 : K + (cntMend m + 3) ≤ 268435456 := by rw [dUnhide hK2]; omega
        obtain ⟨z0, f0⟩ := M.at hkl 0 (.int .i64 m.bye) (by rw [hfk]; rfl)
        have M0 := M.put sitsOfMend hkl hb1 hs0 hsp 0 (by decide) (.int .i64 ((K : Int))) ⟨[.int .i64 ((K : Int)), .int .i64 m.epoch, .slice sa m.sealed.length sc, .slice ea m.seen.length ec, .bool m.planned, .slice wa m.wrote.length wc], rfl, m⟩ (by rw [hfk]; rfl)
        obtain ⟨z1, f1⟩ := M0.at hkl 1 (.int .i64 m.epoch) (by rw [putG_same]; rfl)
        have M1 := M0.put sitsOfMend hkl hb1 hs0 hsp 1 (by decide) (.int .i64 ((K : Int) + 1)) ⟨[.int .i64 ((K : Int)), .int .i64 ((K : Int) + 1), .slice sa m.sealed.length sc, .slice ea m.seen.length ec, .bool m.planned, .slice wa m.wrote.length wc], rfl, m⟩ (by rw [putG_same]; rfl)
        obtain ⟨sv, ev, wv, ls, e, hrs, o1, o2, o3, t1, t2, t3⟩ := ho
        cases e
        have hrl : ls.length ≤ 9223372036854775807 := o3.1.rw.1
        have S1 := dHide t1
        have S2 := dHide t2
        have S3 := dHide t3
        have P1 := (((o1.sits (hi := s (k + 1)) (by omega)).put (b := b) (o := off + k * 6) (.inl (by omega)) (.int .i64 ((K : Int)))).put (b := b) (o := off + k * 6 + 1) (.inl (by omega)) (.int .i64 ((K : Int) + 1)))
        have P2 := (((o2.sits (hi := s (k + 1)) (by omega)).put (b := b) (o := off + k * 6) (.inl (by omega)) (.int .i64 ((K : Int)))).put (b := b) (o := off + k * 6 + 1) (.inl (by omega)) (.int .i64 ((K : Int) + 1)))
        have P3 := (((o3.sits (hi := s (k + 1)) (by omega)).put (b := b) (o := off + k * 6) (.inl (by omega)) (.int .i64 ((K : Int)))).put (b := b) (o := off + k * 6 + 1) (.inl (by omega)) (.int .i64 ((K : Int) + 1)))
        obtain ⟨z9, -⟩ := M1.at hkl 2 (.slice sa m.sealed.length sc) (by rw [putG_same]; rfl)
        simp only [Nat.add_zero] at z0 f0 z1 f1 P1 P2 P3 z9
        have hcm : cntMend m = m.sealed.length + (cntEntryS m.seen + sumL (ls.map Nst.m)) := by unfold cntMend cntIntSS; rw [hrs]
        have CE := markN_in (s k) (s (k + 1)) _ m.sealed (K + 2) _ (by omega) (by omega) P1.fit P1.now
        have e3 : ((K + 2 : Nat) : Int) = (K : Int) + 1 + 1 := by omega
        rw [e3] at CE
        have CE := dHide CE
        have MH := dHide M1
        have P2 := dHide P2
        have P3 := dHide P3
        simp only [Nat.add_zero] at MH
        rw [hcm] at hK2 hKb2
        have C2 := dHide fun W (hW : s (k + 1) ≤ W.heap.size) h => markEntryS_in (s k) (s (k + 1)) (.slice ea m.seen.length ec) m.seen (K + 2 + m.sealed.length) W (by omega) (by omega) hW h
        have C3 := dHide fun W (hW : s (k + 1) ≤ W.heap.size) h => markIntSS_in (s k) (s (k + 1)) (.slice wa m.wrote.length wc) ls (K + 2 + m.sealed.length + cntEntryS m.seen + 1) W (by omega) (by omega) hrl hW h
        clear M0 M1 M P1 o1 o2 o3 t1 t2 t3 hfk hy s1 s2 e3 hM hfit hcm hrs
        go_wp2_with fail
        refine (dUnhide CE).mono ?_
        rintro r w1 ⟨rfl, -, ⟨b1, b2, d1, hd1⟩, wr1⟩
        have L2 := (dUnhide P2).now.wr d1 (by
          rcases hd1 with ⟨h, rfl, rfl⟩ | ⟨h, rfl, rfl⟩
          · exact .inr (.inr (Nat.zero_le _))
          · rcases dUnhide S1 with h' | h' | h'
            · exact absurd h' h
            · exact .inl h'
            · exact .inr (by omega))
        have L3 := (dUnhide P3).now.marked d1 hd1 (dUnhide S2)
        have y1 : s (k + 1) ≤ w1.heap.size := Nat.le_trans (dUnhide P2).fit wr1.size
        have N1 := (dUnhide MH).sub sitsOfMend hkl hs0 (dUnhide HSP) wr1
        obtain ⟨z3, -⟩ := N1.at hkl 3 (.slice ea m.seen.length ec) (by rw [putG_same]; rfl)
        have C2' := dHide (dUnhide C2 w1 y1 L2)
        have N1 := dHide N1
        have L3 := dHide L3
        clear CE MH d1 hd1 wr1 L2 C2 P2 P3 z0 f0 z1 f1 z9
        go_wp2_with fail
        refine (dUnhide C2').mono ?_
        rintro r w2 ⟨rfl, -, ⟨b1', b2', d2, hd2⟩, wr2⟩
        have L3' := (dUnhide L3).marked d2 hd2 (dUnhide S3)
        have y2 : s (k + 1) ≤ w2.heap.size := Nat.le_trans y1 wr2.size
        have N2 := (dUnhide N1).sub sitsOfMend hkl hs0 (dUnhide HSP) wr2
        obtain ⟨z4, f4⟩ := N2.at hkl 4 (.bool m.planned) (by rw [putG_same]; rfl)
        have N3 := N2.put sitsOfMend hkl hb1 hs0 hsp 4 (by decide) (.bool (((K + 2 + m.sealed.length + cntEntryS m.seen : Nat) : Int) % 3 == 0)) ⟨[.int .i64 ((K : Int)), .int .i64 ((K : Int) + 1), .slice sa m.sealed.length sc, .slice ea m.seen.length ec, .bool ((((K + 2 + m.sealed.length + cntEntryS m.seen : Nat) : Int) % 3 == 0)), .slice wa m.wrote.length wc], rfl, m⟩ (by rw [putG_same]; rfl)
        obtain ⟨z5, -⟩ := N3.at hkl 5 (.slice wa m.wrote.length wc) (by rw [putG_same]; rfl)
        have P3' := (L3'.sits y2).put (b := b) (o := off + k * 6 + 4) (.inl (by omega)) (.bool (((K + 2 + m.sealed.length + cntEntryS m.seen : Nat) : Int) % 3 == 0))
        have C3' := dUnhide C3 _ P3'.fit P3'.now
        have e4 : ((K + 2 + m.sealed.length + cntEntryS m.seen + 1 : Nat) : Int) = ((K + 2 + m.sealed.length + cntEntryS m.seen : Nat) : Int) + 1 := by omega
        rw [e4] at C3'
        have C3' := dHide C3'
        have NH := dHide N3
        have h25 : K + 2 + m.sealed.length + cntEntryS m.seen ≤ 268435456 := by omega
        have e5 : K + (m.sealed.length + (cntEntryS m.seen + sumL (ls.map Nst.m)) + 3) = K + 2 + m.sealed.length + cntEntryS m.seen + 1 + sumL (ls.map Nst.m) := by omega
        rw [e5] at hK2 hKb2
        generalize sumL (ls.map Nst.m) = cn at *
        generalize K + 2 + m.sealed.length + cntEntryS m.seen = Q at *
        clear C2' N1 L3 d2 hd2 wr2 L3' N2 N3 P3' C3 z3 e4 e5 S1 S2 S3 y1 y2
        go_wp2_with fail
        refine (dUnhide C3').mono ?_
        rintro r w3 ⟨rfl, -, -, wr3⟩
        have M9 := dHide ((dUnhide NH).sub sitsOfMend hkl hs0 (dUnhide HSP) wr3).fin
        clear C3' NH wr3 z4 f4 z5 hsp l1 l2
        have hq : Q + 1 + cn ≤ 268435456 := hKb2
        generalize hg : Q + 1 + cn = q at *
        clear hg
        go_wp2
        go_roundw
        case rel => exact ⟨k + 1, q, by go_num, by first | rfl | go_num, by omega, hq, hK2, dUnhide M9⟩
        case measure => simp [intOf]; omega
      · have e1 : k = rs.length := by omega
        subst e1
        have e2 : Hid ((K : Int) = ((k0 + cntMendS (rs.map Pd.m) : Nat) : Int)) := by rw [Hid, dUnhide hK, dUnhide hcn]
        obtain ⟨-, -, -, -, hw, -⟩ := dUnhide hM
        have hw := dHide hw
        clear hM hK HM0 hcn HC
        go_wp2
        go_ret
        exact ⟨by have e := dUnhide e2; simp only [Int.natCast_add] at e; simp [e], dUnhide hw⟩
end Go.Proofs.Ytaamipmlalplbaa
