/- Rows of writers and readers, marked (printed by tools/mkrowm.py). -/
import Derived.Test.YtaamipmlalplbaaDpM
import Derived.Test.YtaamipmlalplbaaWrSc
import Derived.Deep.DeepCutAuto
namespace Go.Proofs.Ytaamipmlalplbaa
open Go.ChangeShapes Go.WideShapes Go.ChangeAt Go.RowKit
set_option linter.unusedVariables false
set_option linter.unusedSimpArgs false
set_option maxRecDepth 100000

def cntWriterS (ms : List Wt) : Nat := sumPd (fun m => cntWriter m + 1) ms
set_option maxHeartbeats 4000000 in
theorem markWriterS_w (lo hi : Nat) (v : Value) (ms : List Wt) (k0 : Nat) (w : World) (hk : k0 ≤ 134217728) (hl : cntWriterS ms ≤ 134217728) (hf : hi ≤ w.heap.size) (h : OwWriterS lo hi v ms w) :
    Calls Try.prog 30 #[v, .int .i64 (k0 : Int)] w fun e w' => e = .returned (.int .i64 ((k0 + cntWriterS ms : Nat) : Int)) ∧ Wr lo hi w w' := by
  obtain ⟨a0, cap0, rfl, hl0⟩ := formD h.rd
  rcases OwD.marks (v := .slice a0 ms.length cap0) h hf zeroWriterS with rfl | ⟨b, off, rs, s, rfl, rfl, hb1, hs0, hsp, M0⟩
  · have e2 : k0 + cntWriterS [] = k0 := rfl
    rw [e2]
    clear hl h e2
    go_enter Try.func30, Try.ntmps30
    go_wp2
    go_rounds 1
    go_ret
    exact ⟨rfl, Wr.refl _ _ _⟩
  · rw [List.length_map] at *
    have HC : Hid (∀ k (hk : k < rs.length), cntWriterS ((rs.map Pd.m).take (k + 1)) = cntWriterS ((rs.map Pd.m).take k) + (cntWriter rs[k].m + 1) ∧ cntWriterS ((rs.map Pd.m).take (k + 1)) ≤ 134217728) := fun k hk => by
      have h1 := sumPd_take (fun m => cntWriter m + 1) (rs.map Pd.m) k (by simpa using hk)
      have h2 := sumPd_le (fun m => cntWriter m + 1) (rs.map Pd.m) (k + 1)
      rw [List.getElem_map] at h1
      unfold cntWriterS at hl ⊢
      exact ⟨h1, by omega⟩
    have hcn : Hid (cntWriterS ((rs.map Pd.m).take rs.length) = cntWriterS (rs.map Pd.m)) := by rw [Hid, List.take_of_length_le (by simp)]
    have HSP := dHide hsp
    have HM0 := dHide M0
    clear h M0 hsp hl
    go_enter Try.func30, Try.ntmps30
    go_wp2
    go_loopw [5, 1] (fun x y wr => ∃ (k K : Nat), x = .int .i64 (k : Int) ∧ y = .int .i64 (K : Int) ∧ k ≤ rs.length ∧ K ≤ 268435456 ∧ Hid (K = k0 + cntWriterS ((rs.map Pd.m).take k)) ∧ Hid (MkD OwWriter lo hi w wr b off rs s k)) (fun x _ _ => rs.length - (intOf x).toNat)
    case atStart => exact ⟨0, k0, rfl, rfl, Nat.zero_le _, by omega, rfl, dUnhide HM0⟩
    case round =>
      obtain ⟨k, K, rfl, rfl, hkk, hKb, hK, hM⟩ := hrel
      by_cases hlt : (k : Int) < (rs.length : Int)
      · have hkl : k < rs.length := by omega
        obtain ⟨s1, s2⟩ := dUnhide HC k hkl
        obtain ⟨f, M, hfk, ho⟩ := (dUnhide hM).start hkl
        have hsp := dUnhide HSP
        have l1 := hsp.hi (k + 1) (by omega)
        have l2 := hsp.mono k 0 (Nat.zero_le _) (by omega)
        have hfit := M.fit
        have hF := formWriter ho.rd
        obtain ⟨yc, yl, m, hy⟩ : ∃ yc yl m, rs[k] = (⟨yc, yl, m⟩ : Pd 2 Wt) := ⟨_, _, _, rfl⟩
        rw [hy] at hfk ho hF s1
        obtain ⟨a, cap, hF, -⟩ := hF
        have hF := Pd.eq hF
        simp only at hF s1
        subst hF
        have hK2 : Hid (K + (cntWriter m + 1) = k0 + cntWriterS ((rs.map Pd.m).take (k + 1))) := by rw [Hid, s1, dUnhide hK]; omega
        have hKb2 : K + (cntWriter m + 1) ≤ 268435456 := by rw [dUnhide hK2]; omega
        obtain ⟨z0, f0⟩ := M.at hkl 0 (.int .i64 m.epoch) (by rw [hfk]; rfl)
        have M0 := M.put sitsOfWriter hkl hb1 hs0 hsp 0 (by decide) (.int .i64 ((K : Int))) ⟨[.int .i64 ((K : Int)), .slice a m.words.length cap], rfl, m⟩ (by rw [hfk]; rfl)
        obtain ⟨sv, e, hw⟩ := ho
        cases e
        have SW := ((OwK.sits hw (by omega)).put (b := b) (o := off + k * 2) (.inl (by omega)) (.int .i64 ((K : Int))))
        obtain ⟨z9, -⟩ := M0.at hkl 1 (.slice a m.words.length cap) (by rw [putG_same]; rfl)
        simp only [Nat.add_zero] at z0 f0 SW z9
        have CE := markWordS_ (s k) (s (k + 1)) _ m.words (K + 1) _ (by omega) (by unfold cntWriter at hKb2; omega) SW
        have e3 : ((K + 1 : Nat) : Int) = (K : Int) + 1 := by omega
        rw [e3] at CE
        have CE := dHide CE
        have MH := dHide M0
        have e5 : K + (cntWriter m + 1) = K + 1 + cntWordS m.words := by unfold cntWriter; omega
        rw [e5] at hK2 hKb2
        generalize cntWordS m.words = cn at *
        simp only [Nat.add_zero] at MH
        clear M0 M SW hw hfk hy s1 s2 e3 e5 hM hfit
        go_wp2_with fail
        refine (dUnhide CE).mono ?_
        rintro r w2 ⟨rfl, -, d2⟩
        have M9 := dHide ((dUnhide MH).sub sitsOfWriter hkl hs0 (dUnhide HSP) d2).fin
        clear CE MH d2 z0 f0 z9 hsp l1 l2
        have hq : K + 1 + cn ≤ 268435456 := hKb2
        generalize hg : K + 1 + cn = q at *
        clear hg
        go_wp2
        go_roundw
        case rel => exact ⟨k + 1, q, by go_num, by first | rfl | go_num, by omega, hq, hK2, dUnhide M9⟩
        case measure => simp [intOf]; omega
      · have e1 : k = rs.length := by omega
        subst e1
        have e2 : Hid ((K : Int) = ((k0 + cntWriterS (rs.map Pd.m) : Nat) : Int)) := by rw [Hid, dUnhide hK, dUnhide hcn]
        obtain ⟨-, -, -, -, hw, -⟩ := dUnhide hM
        have hw := dHide hw
        clear hM hK HM0 hcn HC
        go_wp2
        go_ret
        exact ⟨by have e := dUnhide e2; simp only [Int.natCast_add] at e; simp [e], dUnhide hw⟩
def cntReaderS (ms : List Rr) : Nat := sumPd (fun m => cntReader m + 2) ms
set_option maxHeartbeats 4000000 in
theorem markReaderS_w (lo hi : Nat) (v : Value) (ms : List Rr) (k0 : Nat) (w : World) (hk : k0 ≤ 134217728) (hl : cntReaderS ms ≤ 134217728) (hf : hi ≤ w.heap.size) (h : OwReaderS lo hi v ms w) :
    Calls Try.prog 32 #[v, .int .i64 (k0 : Int)] w fun e w' => e = .returned (.int .i64 ((k0 + cntReaderS ms : Nat) : Int)) ∧ Wr lo hi w w' := by
  obtain ⟨a0, cap0, rfl, hl0⟩ := formD h.rd
  rcases OwD.marks (v := .slice a0 ms.length cap0) h hf zeroReaderS with rfl | ⟨b, off, rs, s, rfl, rfl, hb1, hs0, hsp, M0⟩
  · have e2 : k0 + cntReaderS [] = k0 := rfl
    rw [e2]
    clear hl h e2
    go_enter Try.func32, Try.ntmps32
    go_wp2
    go_rounds 1
    go_ret
    exact ⟨rfl, Wr.refl _ _ _⟩
  · rw [List.length_map] at *
    have HC : Hid (∀ k (hk : k < rs.length), cntReaderS ((rs.map Pd.m).take (k + 1)) = cntReaderS ((rs.map Pd.m).take k) + (cntReader rs[k].m + 2) ∧ cntReaderS ((rs.map Pd.m).take (k + 1)) ≤ 134217728) := fun k hk => by
      have h1 := sumPd_take (fun m => cntReader m + 2) (rs.map Pd.m) k (by simpa using hk)
      have h2 := sumPd_le (fun m => cntReader m + 2) (rs.map Pd.m) (k + 1)
      rw [List.getElem_map] at h1
      unfold cntReaderS at hl ⊢
      exact ⟨h1, by omega⟩
    have hcn : Hid (cntReaderS ((rs.map Pd.m).take rs.length) = cntReaderS (rs.map Pd.m)) := by rw [Hid, List.take_of_length_le (by simp)]
    have HSP := dHide hsp
    have HM0 := dHide M0
    clear h M0 hsp hl
    go_enter Try.func32, Try.ntmps32
    go_wp2
    go_loopw [5, 1] (fun x y wr => ∃ (k K : Nat), x = .int .i64 (k : Int) ∧ y = .int .i64 (K : Int) ∧ k ≤ rs.length ∧ K ≤ 268435456 ∧ Hid (K = k0 + cntReaderS ((rs.map Pd.m).take k)) ∧ Hid (MkD OwReader lo hi w wr b off rs s k)) (fun x _ _ => rs.length - (intOf x).toNat)
    case atStart => exact ⟨0, k0, rfl, rfl, Nat.zero_le _, by omega, rfl, dUnhide HM0⟩
    case round =>
      obtain ⟨k, K, rfl, rfl, hkk, hKb, hK, hM⟩ := hrel
      by_cases hlt : (k : Int) < (rs.length : Int)
      · have hkl : k < rs.length := by omega
        obtain ⟨s1, s2⟩ := dUnhide HC k hkl
        obtain ⟨f, M, hfk, ho⟩ := (dUnhide hM).start hkl
        have hsp := dUnhide HSP
        have l1 := hsp.hi (k + 1) (by omega)
        have l2 := hsp.mono k 0 (Nat.zero_le _) (by omega)
        have hfit := M.fit
        have hF := formReader ho.rd
        obtain ⟨yc, yl, m, hy⟩ : ∃ yc yl m, rs[k] = (⟨yc, yl, m⟩ : Pd 3 Rr) := ⟨_, _, _, rfl⟩
        rw [hy] at hfk ho hF s1
        obtain ⟨a, cap, hF, -⟩ := hF
        have hF := Pd.eq hF
        simp only at hF s1
        subst hF
        have hK2 : Hid (K + (cntReader m + 2) = k0 + cntReaderS ((rs.map Pd.m).take (k + 1))) := by rw [Hid, s1, dUnhide hK]; omega
        have hKb2 : K + (cntReader m + 2) ≤ 268435456 := by rw [dUnhide hK2]; omega
        obtain ⟨z0, f0⟩ := M.at hkl 0 (.int .i64 m.epoch) (by rw [hfk]; rfl)
        have M0 := M.put sitsOfReader hkl hb1 hs0 hsp 0 (by decide) (.int .i64 ((K : Int))) ⟨[.int .i64 ((K : Int)), .int .i64 m.off, .slice a m.out.length cap], rfl, m⟩ (by rw [hfk]; rfl)
        obtain ⟨z1, f1⟩ := M0.at hkl 1 (.int .i64 m.off) (by rw [putG_same]; rfl)
        have M1 := M0.put sitsOfReader hkl hb1 hs0 hsp 1 (by decide) (.int .i64 ((K : Int) + 1)) ⟨[.int .i64 ((K : Int)), .int .i64 ((K : Int) + 1), .slice a m.out.length cap], rfl, m⟩ (by rw [putG_same]; rfl)
        obtain ⟨sv, e, hw⟩ := ho
        cases e
        have SW := (((OwG.sits hw (by omega)).put (b := b) (o := off + k * 3) (.inl (by omega)) (.int .i64 ((K : Int)))).put (b := b) (o := off + k * 3 + 1) (.inl (by omega)) (.int .i64 ((K : Int) + 1)))
        obtain ⟨z9, -⟩ := M1.at hkl 2 (.slice a m.out.length cap) (by rw [putG_same]; rfl)
        simp only [Nat.add_zero] at z0 f0 z1 f1 SW z9
        have CE := markEventS_ (s k) (s (k + 1)) _ m.out (K + 2) _ (by omega) (by unfold cntReader at hKb2; omega) SW
        have e3 : ((K + 2 : Nat) : Int) = (K : Int) + 1 + 1 := by omega
        rw [e3] at CE
        have CE := dHide CE
        have MH := dHide M1
        have e5 : K + (cntReader m + 2) = K + 2 + cntEventS m.out := by unfold cntReader; omega
        rw [e5] at hK2 hKb2
        generalize cntEventS m.out = cn at *
        simp only [Nat.add_zero] at MH
        clear M0 M1 M SW hw hfk hy s1 s2 e3 e5 hM hfit
        go_wp2_with fail
        refine (dUnhide CE).mono ?_
        rintro r w2 ⟨rfl, -, d2⟩
        have M9 := dHide ((dUnhide MH).sub sitsOfReader hkl hs0 (dUnhide HSP) d2).fin
        clear CE MH d2 z0 f0 z1 f1 z9 hsp l1 l2
        have hq : K + 2 + cn ≤ 268435456 := hKb2
        generalize hg : K + 2 + cn = q at *
        clear hg
        go_wp2
        go_roundw
        case rel => exact ⟨k + 1, q, by go_num, by first | rfl | go_num, by omega, hq, hK2, dUnhide M9⟩
        case measure => simp [intOf]; omega
      · have e1 : k = rs.length := by omega
        subst e1
        have e2 : Hid ((K : Int) = ((k0 + cntReaderS (rs.map Pd.m) : Nat) : Int)) := by rw [Hid, dUnhide hK, dUnhide hcn]
        obtain ⟨-, -, -, -, hw, -⟩ := dUnhide hM
        have hw := dHide hw
        clear hM hK HM0 hcn HC
        go_wp2
        go_ret
        exact ⟨by have e := dUnhide e2; simp only [Int.natCast_add] at e; simp [e], dUnhide hw⟩
end Go.Proofs.Ytaamipmlalplbaa
