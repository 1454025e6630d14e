/- Several texts in one: WsM, WoM. -/
import Derived.Test.YtkiclbbialadlaaGreatGk8
import Derived.Test.YtkiclbbialadlaaGreatGk11
import Derived.Deep.DeepCutAuto
import Derived.Test.YtkiclbbialadlaaGreatGz12
import Derived.Test.YtkiclbbialadlaaGreatGz15
namespace Go.Proofs.YtkiclbbialadlaaGreat
open Go.ChangeShapes Go.WideShapes Go.ChangeAt Go.RowKit
set_option linter.unusedSimpArgs false
set_option linter.unusedVariables false
set_option maxRecDepth 100000
def cntWriterS (ms : List Wt) : Nat := sumPd (fun m => cntWriter m + 1) ms
set_option maxHeartbeats 4000000 in
theorem markWriterS_w (lo hi : Nat) (v : Value) (ms : List Wt) (k0 : Nat) (w : World) (hk : k0 ≤ 134217728) (hl : cntWriterS ms ≤ 134217728) (hf : hi ≤ w.heap.size) (h : OwWriterS lo hi v ms w) :
  Calls Tryz.prog 51 #[v, .int .i64 (k0 : Int)] w fun e w' => e = .returned (.int .i64 ((k0 + cntWriterS ms : Nat) : Int)) ∧ Wr lo hi w w' := by
 obtain ⟨a0, cap0, rfl, hl0⟩ := formD h.rd
 rcases OwD.marks (v := .slice a0 ms.length cap0) h hf zeroWriterS with rfl | ⟨b, off, rs, s, rfl, rfl, hb1, hs0, hsp, M0⟩
 ·have e2 : k0 + cntWriterS [] = k0 := rfl
  rw [e2]
  clear hl h e2
  go_enter Tryz.func51, Tryz.ntmps51
  go_wp2
  go_rounds 1
  go_ret
  exact ⟨rfl, Wr.refl _ _ _⟩
 ·rw [List.length_map] at *
  have HC : Hid (∀ k (hk : k < rs.length), cntWriterS ((rs.map Pd.m).take (k + 1)) = cntWriterS ((rs.map Pd.m).take k) + (cntWriter rs[k].m + 1) ∧ cntWriterS ((rs.map Pd.m).take (k + 1)) ≤ 134217728) := fun k hk => by
   have h1 := sumPd_take (fun m => cntWriter m + 1) (rs.map Pd.m) k (by simpa using hk)
   have h2 := sumPd_le (fun m => cntWriter m + 1) (rs.map Pd.m) (k + 1)
   rw [List.getElem_map] at h1
   unfold cntWriterS at hl ⊢
   exact ⟨h1, by omega⟩
  have hcn : Hid (cntWriterS ((rs.map Pd.m).take rs.length) = cntWriterS (rs.map Pd.m)) := by rw [Hid, List.take_of_length_le (by simp)]
  have HSP := dH hsp
  have HM0 := dH M0
  clear h M0 hsp hl
  go_enter Tryz.func51, Tryz.ntmps51
  go_wp2
  go_loopw [5, 1] (fun x y wr => ∃ (k K : Nat), x = .int .i64 (k : Int) ∧ y = .int .i64 (K : Int) ∧ k ≤ rs.length ∧ K ≤ 268435456 ∧ Hid (K = k0 + cntWriterS ((rs.map Pd.m).take k)) ∧ Hid (MkD OwWriter lo hi w wr b off rs s k)) (fun x _ _ => rs.length - (intOf x).toNat)
  case atStart => exact ⟨0, k0, rfl, rfl, Nat.zero_le _, by omega, rfl, dU HM0⟩
  case round =>
   obtain ⟨k, K, rfl, rfl, hkk, hKb, hK, hM⟩ := hrel
   by_cases hlt : (k : Int) < (rs.length : Int)
   ·have hkl : k < rs.length := by omega
    obtain ⟨s1, s2⟩ := dU HC k hkl
    obtain ⟨f, M, hfk, ho⟩ := (dU hM).start hkl
    have hsp := dU HSP
    have l1 := hsp.hi (k + 1) (by omega)
    have l2 := hsp.mono k 0 (Nat.zero_le _) (by omega)
    have hfit := M.fit
    have hF := formWriter ho.rd
    obtain ⟨yc, yl, m, hy⟩ : ∃ yc yl m, rs[k] = (⟨yc, yl, m⟩ : Pd 2 Wt) := ⟨_, _, _, rfl⟩
    rw [hy] at hfk ho hF s1
    obtain ⟨a, cap, hF, -⟩ := hF
    have hF := Pd.eq hF
    simp only at hF s1
    subst hF
    have hK2 : Hid (K + (cntWriter m + 1) = k0 + cntWriterS ((rs.map Pd.m).take (k + 1))) := by rw [Hid, s1, dU hK]; omega
    have hKb2 : K + (cntWriter m + 1) ≤ 268435456 := by rw [dU hK2]; omega
    obtain ⟨z0, f0⟩ := M.at hkl 0 (.int .i64 m.epoch) (by rw [hfk]; rfl)
    have M0 := M.put sitsOfWriter hkl hb1 hs0 hsp 0 (by decide) (.int .i64 ((K : Int))) ⟨[.int .i64 ((K : Int)), .slice a m.words.length cap], rfl, m⟩ (by rw [hfk]; rfl)
    obtain ⟨sv, e, hw⟩ := ho
    cases e
    have SW := ((OwK.sits hw (by omega)).put (b := b) (o := off + k * 2) (.inl (by omega)) (.int .i64 ((K : Int))))
    obtain ⟨z9, -⟩ := M0.at hkl 1 (.slice a m.words.length cap) (by rw [putG_same]; rfl)
    simp only [Nat.add_zero] at z0 f0 SW z9
    have CE := markWordS_ (s k) (s (k + 1)) _ m.words (K + 1) _ (by omega) (by unfold cntWriter at hKb2; omega) SW
    have e3 : ((K + 1 : Nat) : Int) = (K : Int) + 1 := by omega
    rw [e3] at CE
    have CE := dH CE
    have MH := dH M0
    have e5 : K + (cntWriter m + 1) = K + 1 + cntWordS m.words := by unfold cntWriter; omega
    rw [e5] at hK2 hKb2
    generalize cntWordS m.words = cn at *
    simp only [Nat.add_zero] at MH
    clear M0 M SW hw hfk hy s1 s2 e3 e5 hM hfit
    go_wp2_with fail
    refine (dU CE).mono ?_
    rintro r w2 ⟨rfl, -, d2⟩
    have M9 := dH ((dU MH).sub sitsOfWriter hkl hs0 (dU HSP) d2).fin
    clear CE MH d2 z0 f0 z9 hsp l1 l2
    have hq : K + 1 + cn ≤ 268435456 := hKb2
    generalize hg : K + 1 + cn = q at *
    clear hg
    go_wp2
    go_roundw
    case rel => exact ⟨k + 1, q, by go_num, by first | rfl | go_num, by omega, hq, hK2, dU M9⟩
    case measure => simp [intOf]; omega
   ·have e1 : k = rs.length := by omega
    subst e1
    have e2 : Hid ((K : Int) = ((k0 + cntWriterS (rs.map Pd.m) : Nat) : Int)) := by rw [Hid, dU hK, dU hcn]
    obtain ⟨-, -, -, -, hw, -⟩ := dU hM
    have hw := dH hw
    clear hM hK HM0 hcn HC
    go_wp2
    go_ret
    exact ⟨by have e := dU e2; simp only [Int.natCast_add] at e; simp [e], dU hw⟩
def cntReaderS (ms : List Rr) : Nat := sumPd (fun m => cntReader m + 2) ms
set_option maxHeartbeats 4000000 in
theorem markReaderS_w (lo hi : Nat) (v : Value) (ms : List Rr) (k0 : Nat) (w : World) (hk : k0 ≤ 134217728) (hl : cntReaderS ms ≤ 134217728) (hf : hi ≤ w.heap.size) (h : OwReaderS lo hi v ms w) :
  Calls Tryz.prog 53 #[v, .int .i64 (k0 : Int)] w fun e w' => e = .returned (.int .i64 ((k0 + cntReaderS ms : Nat) : Int)) ∧ Wr lo hi w w' := by
 obtain ⟨a0, cap0, rfl, hl0⟩ := formD h.rd
 rcases OwD.marks (v := .slice a0 ms.length cap0) h hf zeroReaderS with rfl | ⟨b, off, rs, s, rfl, rfl, hb1, hs0, hsp, M0⟩
 ·have e2 : k0 + cntReaderS [] = k0 := rfl
  rw [e2]
  clear hl h e2
  go_enter Tryz.func53, Tryz.ntmps53
  go_wp2
  go_rounds 1
  go_ret
  exact ⟨rfl, Wr.refl _ _ _⟩
 ·rw [List.length_map] at *
  have HC : Hid (∀ k (hk : k < rs.length), cntReaderS ((rs.map Pd.m).take (k + 1)) = cntReaderS ((rs.map Pd.m).take k) + (cntReader rs[k].m + 2) ∧ cntReaderS ((rs.map Pd.m).take (k + 1)) ≤ 134217728) := fun k hk => by
   have h1 := sumPd_take (fun m => cntReader m + 2) (rs.map Pd.m) k (by simpa using hk)
   have h2 := sumPd_le (fun m => cntReader m + 2) (rs.map Pd.m) (k + 1)
   rw [List.getElem_map] at h1
   unfold cntReaderS at hl ⊢
   exact ⟨h1, by omega⟩
  have hcn : Hid (cntReaderS ((rs.map Pd.m).take rs.length) = cntReaderS (rs.map Pd.m)) := by rw [Hid, List.take_of_length_le (by simp)]
  have HSP := dH hsp
  have HM0 := dH M0
  clear h M0 hsp hl
  go_enter Tryz.func53, Tryz.ntmps53
  go_wp2
  go_loopw [5, 1] (fun x y wr => ∃ (k K : Nat), x = .int .i64 (k : Int) ∧ y = .int .i64 (K : Int) ∧ k ≤ rs.length ∧ K ≤ 268435456 ∧ Hid (K = k0 + cntReaderS ((rs.map Pd.m).take k)) ∧ Hid (MkD OwReader lo hi w wr b off rs s k)) (fun x _ _ => rs.length - (intOf x).toNat)
  case atStart => exact ⟨0, k0, rfl, rfl, Nat.zero_le _, by omega, rfl, dU HM0⟩
  case round =>
   obtain ⟨k, K, rfl, rfl, hkk, hKb, hK, hM⟩ := hrel
   by_cases hlt : (k : Int) < (rs.length : Int)
   ·have hkl : k < rs.length := by omega
    obtain ⟨s1, s2⟩ := dU HC k hkl
    obtain ⟨f, M, hfk, ho⟩ := (dU hM).start hkl
    have hsp := dU HSP
    have l1 := hsp.hi (k + 1) (by omega)
    have l2 := hsp.mono k 0 (Nat.zero_le _) (by omega)
    have hfit := M.fit
    have hF := formReader ho.rd
    obtain ⟨yc, yl, m, hy⟩ : ∃ yc yl m, rs[k] = (⟨yc, yl, m⟩ : Pd 3 Rr) := ⟨_, _, _, rfl⟩
    rw [hy] at hfk ho hF s1
    obtain ⟨a, cap, hF, -⟩ := hF
    have hF := Pd.eq hF
    simp only at hF s1
    subst hF
    have hK2 : Hid (K + (cntReader m + 2) = k0 + cntReaderS ((rs.map Pd.m).take (k + 1))) := by rw [Hid, s1, dU hK]; omega
    have hKb2 : K + (cntReader m + 2) ≤ 268435456 := by rw [dU hK2]; omega
    obtain ⟨z0, f0⟩ := M.at hkl 0 (.int .i64 m.epoch) (by rw [hfk]; rfl)
    have M0 := M.put sitsOfReader hkl hb1 hs0 hsp 0 (by decide) (.int .i64 ((K : Int))) ⟨[.int .i64 ((K : Int)), .int .i64 m.off, .slice a m.out.length cap], rfl, m⟩ (by rw [hfk]; rfl)
    obtain ⟨z1, f1⟩ := M0.at hkl 1 (.int .i64 m.off) (by rw [putG_same]; rfl)
    have M1 := M0.put sitsOfReader hkl hb1 hs0 hsp 1 (by decide) (.int .i64 ((K : Int) + 1)) ⟨[.int .i64 ((K : Int)), .int .i64 ((K : Int) + 1), .slice a m.out.length cap], rfl, m⟩ (by rw [putG_same]; rfl)
    obtain ⟨sv, e, hw⟩ := ho
    cases e
    have SW := (((OwG.sits hw (by omega)).put (b := b) (o := off + k * 3) (.inl (by omega)) (.int .i64 ((K : Int)))).put (b := b) (o := off + k * 3 + 1) (.inl (by omega)) (.int .i64 ((K : Int) + 1)))
    obtain ⟨z9, -⟩ := M1.at hkl 2 (.slice a m.out.length cap) (by rw [putG_same]; rfl)
    simp only [Nat.add_zero] at z0 f0 z1 f1 SW z9
    have CE := markEventS_ (s k) (s (k + 1)) _ m.out (K + 2) _ (by omega) (by unfold cntReader at hKb2; omega) SW
    have e3 : ((K + 2 : Nat) : Int) = (K : Int) + 1 + 1 := by omega
    rw [e3] at CE
    have CE := dH CE
    have MH := dH M1
    have e5 : K + (cntReader m + 2) = K + 2 + cntEventS m.out := by unfold cntReader; omega
    rw [e5] at hK2 hKb2
    generalize cntEventS m.out = cn at *
    simp only [Nat.add_zero] at MH
    clear M0 M1 M SW hw hfk hy s1 s2 e3 e5 hM hfit
    go_wp2_with fail
    refine (dU CE).mono ?_
    rintro r w2 ⟨rfl, -, d2⟩
    have M9 := dH ((dU MH).sub sitsOfReader hkl hs0 (dU HSP) d2).fin
    clear CE MH d2 z0 f0 z1 f1 z9 hsp l1 l2
    have hq : K + 2 + cn ≤ 268435456 := hKb2
    generalize hg : K + 2 + cn = q at *
    clear hg
    go_wp2
    go_roundw
    case rel => exact ⟨k + 1, q, by go_num, by first | rfl | go_num, by omega, hq, hK2, dU M9⟩
    case measure => simp [intOf]; omega
   ·have e1 : k = rs.length := by omega
    subst e1
    have e2 : Hid ((K : Int) = ((k0 + cntReaderS (rs.map Pd.m) : Nat) : Int)) := by rw [Hid, dU hK, dU hcn]
    obtain ⟨-, -, -, -, hw, -⟩ := dU hM
    have hw := dH hw
    clear hM hK HM0 hcn HC
    go_wp2
    go_ret
    exact ⟨by have e := dU e2; simp only [Int.natCast_add] at e; simp [e], dU hw⟩
def cntWorld (m : Wo) : Nat := cntConfig m.cfg + (cntStoreS m.stores + (cntIntS m.lost + (cntRegister m.reg + (cntWriterS m.writers + (cntMendS m.mends + (cntReaderS m.readers + (cntSentS m.sent)))))))
theorem sumPd_lin {μ : Type} {f g : μ → Nat} (c d : Nat) (h : ∀ m, f m ≤ d * g m + c) : ∀ ms : List μ, sumPd f ms ≤ d * sumPd g ms + c * ms.length
 | [] => by simp [sumPd]
 | m :: l => by
  have ih := sumPd_lin c d h l
  have h0 := h m
  have e1 : sumPd f (m :: l) = f m + sumPd f l := by simp [sumPd]
  have e2 : sumPd g (m :: l) = g m + sumPd g l := by simp [sumPd]
  rw [e1, e2, List.length_cons, Nat.mul_add, Nat.mul_add]
  omega
theorem cntWorld_le {m : Wo} (h : sizWorld m ≤ 1048576) : cntWorld m ≤ 33554432 := by
 unfold sizWorld at h
 have a1 := cntStoreS_le (ms := m.stores) (by omega)
 have a2 := cntRegister_le (m := m.reg) (by omega)
 have a3 : cntWriterS m.writers ≤ 2 * sumPd sizWriter m.writers + 1 * m.writers.length := sumPd_lin 1 2 (fun x => by unfold cntWriter sizWriter cntWordS sizWordS; omega) _
 have a4 : cntMendS m.mends ≤ 4 * sumPd sizMend m.mends + 3 * m.mends.length := sumPd_lin 3 4 (fun x => by unfold cntMend sizMend cntEntryS sizEntryS cntIntSS sizIntSS; omega) _
 have a5 : cntReaderS m.readers ≤ 3 * sumPd sizReader m.readers + 2 * m.readers.length := sumPd_lin 2 3 (fun x => by unfold cntReader sizReader cntEventS sizEventS; omega) _
 have a6 := cntSentS_le (m := m.sent) (by omega)
 unfold sizConfig sizIntS sizWriterS sizMendS sizReaderS sizD at h
 unfold cntWorld cntConfig cntIntS
 omega
set_option maxHeartbeats 8000000 in
theorem markWorld_ (lo hi : Nat) (v : Value) (m : Wo) (k0 : Nat) (w : World) (hk : k0 ≤ 33554432) (hl : cntWorld m ≤ 33554432) (h : Sits (OwWorld lo hi v m) lo hi w) :
  Calls Tryz.prog 12 #[v, .int .i64 (k0 : Int)] w fun e w' => e = .returned (.int .i64 ((k0 + cntWorld m : Nat) : Int)) ∧ True ∧ Wr lo hi w w' := by
 have hfit := h.fit
 obtain ⟨dv, sv, lv, ev, wv, nv, rv, tv, l, r, rfl, sp, h0, h1, h2, h3, h4, h5, h6, h7⟩ := h.now
 have hb0 : ∀ o, Below w.heap.size w (w.alloc o) := fun o => (Below.refl _ _).alloc (Nat.le_refl _) o
 clear h
 have u0 := (sp.1 0 (by omega))
 have u1 := (sp.1 1 (by omega))
 have u2 := (sp.1 2 (by omega))
 have u3 := (sp.1 3 (by omega))
 have u4 := (sp.1 4 (by omega))
 have u5 := (sp.1 5 (by omega))
 have u6 := (sp.1 6 (by omega))
 have u7 := (sp.1 7 (by omega))
 have S0 := (show Sits (OwConfig (l 0) (r 0) (.agg #[dv, .int .i64 m.cfg.2]) m.cfg) (l 0) (r 0) w from ⟨(show r 0 ≤ w.heap.size by omega), fun W hW => ⟨_, rfl, (OwN.sits h0 (show r 0 ≤ w.heap.size by omega)).all W hW⟩⟩)
 have S1 := (h1.sits (show r 1 ≤ w.heap.size by omega))
 have S2 := (OwN.sits h2 (show r 2 ≤ w.heap.size by omega))
 have S3 := (OwRegister.sits (m := m.reg) ⟨_, rfl, h3⟩ (show r 3 ≤ w.heap.size by omega))
 have S4 := (OwD.sits (Ow := OwWriter) sitsOfWriter h4 (show r 4 ≤ w.heap.size by omega))
 have S5 := (OwD.sits (Ow := OwMend) sitsOfMend h5 (show r 5 ≤ w.heap.size by omega))
 have S6 := (OwD.sits (Ow := OwReader) sitsOfReader h6 (show r 6 ≤ w.heap.size by omega))
 have S7 := (OwG.sits h7 (show r 7 ≤ w.heap.size by omega))
 have EK : k0 + cntWorld m = k0 + cntConfig m.cfg + cntStoreS m.stores + cntIntS m.lost + cntRegister m.reg + cntWriterS m.writers + cntMendS m.mends + cntReaderS m.readers + cntSentS m.sent := by unfold cntWorld; omega
 rw [EK]
 unfold cntWorld at hl
 clear EK
 have C0 := dH fun W (h : Sits (OwConfig (l 0) (r 0) (.agg #[dv, .int .i64 m.cfg.2]) m.cfg) (l 0) (r 0) W) => (markConfig_ (l 0) (r 0) _ m.cfg (k0) W (by omega) (by omega) h).mono fun e w' q => (show e = .returned (.int .i64 ((k0 + cntConfig m.cfg : Nat) : Int)) ∧ Wr (l 0) (r 0) W w' from ⟨q.1, q.2.2⟩)
 have C1 := dH fun W (h : Sits (OwStoreS (l 1) (r 1) sv m.stores) (l 1) (r 1) W) => (markStoreS_ (l 1) (r 1) _ m.stores (k0 + cntConfig m.cfg) W (by omega) (by omega) h).mono fun e w' q => (show e = .returned (.int .i64 ((k0 + cntConfig m.cfg + cntStoreS m.stores : Nat) : Int)) ∧ Wr (l 1) (r 1) W w' from ⟨q.1, q.2.2⟩)
 have C2 := dH fun W (h : Sits (OwIntS (l 2) (r 2) lv m.lost) (l 2) (r 2) W) => (markIntS_ (l 2) (r 2) _ m.lost (k0 + cntConfig m.cfg + cntStoreS m.stores) W (by omega) (by omega) h).mono fun e w' q => (show e = .returned (.int .i64 ((k0 + cntConfig m.cfg + cntStoreS m.stores + cntIntS m.lost : Nat) : Int)) ∧ Wr (l 2) (r 2) W w' from ⟨q.1, q.2.2⟩)
 have C3 := dH fun W (h : Sits (OwRegister (l 3) (r 3) (.agg #[ev, .int .i64 m.reg.trim]) m.reg) (l 3) (r 3) W) => (markRegister_ (l 3) (r 3) _ m.reg (k0 + cntConfig m.cfg + cntStoreS m.stores + cntIntS m.lost) W (by omega) (by omega) h).mono fun e w' q => (show e = .returned (.int .i64 ((k0 + cntConfig m.cfg + cntStoreS m.stores + cntIntS m.lost + cntRegister m.reg : Nat) : Int)) ∧ Wr (l 3) (r 3) W w' from ⟨q.1, q.2.2⟩)
 have C4 := dH fun W (h : Sits (OwWriterS (l 4) (r 4) wv m.writers) (l 4) (r 4) W) => markWriterS_w (l 4) (r 4) _ m.writers (k0 + cntConfig m.cfg + cntStoreS m.stores + cntIntS m.lost + cntRegister m.reg) W (by omega) (by omega) h.fit h.now
 have C5 := dH fun W (h : Sits (OwMendS (l 5) (r 5) nv m.mends) (l 5) (r 5) W) => markMendS_w (l 5) (r 5) _ m.mends (k0 + cntConfig m.cfg + cntStoreS m.stores + cntIntS m.lost + cntRegister m.reg + cntWriterS m.writers) W (by omega) (by omega) h.fit h.now
 have C6 := dH fun W (h : Sits (OwReaderS (l 6) (r 6) rv m.readers) (l 6) (r 6) W) => markReaderS_w (l 6) (r 6) _ m.readers (k0 + cntConfig m.cfg + cntStoreS m.stores + cntIntS m.lost + cntRegister m.reg + cntWriterS m.writers + cntMendS m.mends) W (by omega) (by omega) h.fit h.now
 have C7 := dH fun W (h : Sits (OwSentS (l 7) (r 7) tv m.sent) (l 7) (r 7) W) => markSentS_w (l 7) (r 7) _ m.sent (k0 + cntConfig m.cfg + cntStoreS m.stores + cntIntS m.lost + cntRegister m.reg + cntWriterS m.writers + cntMendS m.mends + cntReaderS m.readers) W (by omega) (by omega) h.fit h.now
 have g0 := h0.rd
 obtain ⟨zd, da, dc, rfl, -, -⟩ := g0
 have g1 := h1.rd
 obtain ⟨sa, sc, rfl, zs⟩ := formStoreS g1
 have g2 := h2.rd
 obtain ⟨zl, la, lc, rfl, -, -⟩ := g2
 have g3 := (OwK.rd h3)
 obtain ⟨ea, ec, rfl, ze⟩ := formK g3
 have g4 := h4.rd
 obtain ⟨wa, wc, rfl, zw⟩ := formD g4
 have g5 := h5.rd
 obtain ⟨na, nc, rfl, zn⟩ := formD g5
 have g6 := h6.rd
 obtain ⟨ra, rc, rfl, zr⟩ := formD g6
 have g7 := (OwSentS.rd h7)
 obtain ⟨ta, tc, rfl, zt⟩ := formSentS g7
 have T0 := dH S0
 have T1 := dH S1
 have T2 := dH S2
 have T3 := dH S3
 have T4 := dH S4
 have T5 := dH S5
 have T6 := dH S6
 have T7 := dH S7
 clear S0 S1 S2 S3 S4 S5 S6 S7 h0 h1 h2 h3 h4 h5 h6 h7 g1 g3 g4 g5 g6 g7
 have hcs : k0 + cntConfig m.cfg + cntStoreS m.stores + cntIntS m.lost + cntRegister m.reg + cntWriterS m.writers + cntMendS m.mends + cntReaderS m.readers + cntSentS m.sent ≤ 67108864 := by omega
 generalize cntConfig m.cfg = n0 at *
 generalize cntStoreS m.stores = n1 at *
 generalize cntIntS m.lost = n2 at *
 generalize cntRegister m.reg = n3 at *
 generalize cntWriterS m.writers = n4 at *
 generalize cntMendS m.mends = n5 at *
 generalize cntReaderS m.readers = n6 at *
 generalize cntSentS m.sent = n7 at *
 generalize m.cfg.1.length = gd at *
 generalize m.stores.length = gs at *
 generalize m.lost.length = gl at *
 generalize m.reg.eras.length = ge at *
 generalize m.writers.length = gw at *
 generalize m.mends.length = gn at *
 generalize m.readers.length = gr at *
 generalize m.sent.length = gt at *
 generalize m.cfg.2 = f1 at *
 generalize m.reg.trim = f5 at *
 generalize m.torn = f10 at *
 have HSP := dH sp
 have X0 := Bx.new w [.slice da gd dc, .int .i64 f1, .slice sa gs sc, .slice la gl lc, .slice ea ge ec, .int .i64 f5, .slice wa gw wc, .slice na gn nc, .slice ra gr rc, .slice ta gt tc, .bool f10] 47
 have B0 := hb0 (.cells #[.slice da gd dc, .int .i64 f1, .slice sa gs sc, .slice la gl lc, .slice ea ge ec, .int .i64 f5, .slice wa gw wc, .slice na gn nc, .slice ra gr rc, .slice ta gt tc, .bool f10] 47)
 have D0 : Wr lo hi w (w.alloc (.cells #[.slice da gd dc, .int .i64 f1, .slice sa gs sc, .slice la gl lc, .slice ea ge ec, .int .i64 f5, .slice wa gw wc, .slice na gn nc, .slice ra gr rc, .slice ta gt tc, .bool f10] 47)) := Wr.of_below B0
 have z0 : w.heap.size < (w.alloc (.cells #[.slice da gd dc, .int .i64 f1, .slice sa gs sc, .slice la gl lc, .slice ea ge ec, .int .i64 f5, .slice wa gw wc, .slice na gn nc, .slice ra gr rc, .slice ta gt tc, .bool f10] 47)).heap.size := by simp
 replace T0 := dH ((dU T0).below B0)
 replace T1 := dH ((dU T1).below B0)
 replace T2 := dH ((dU T2).below B0)
 replace T3 := dH ((dU T3).below B0)
 replace T4 := dH ((dU T4).below B0)
 replace T5 := dH ((dU T5).below B0)
 replace T6 := dH ((dU T6).below B0)
 replace T7 := dH ((dU T7).below B0)
 go_enter Tryz.func12, Tryz.ntmps12
 go_wp2_with fail
 generalize w.alloc (.cells #[.slice da gd dc, .int .i64 f1, .slice sa gs sc, .slice la gl lc, .slice ea ge ec, .int .i64 f5, .slice wa gw wc, .slice na gn nc, .slice ra gr rc, .slice ta gt tc, .bool f10] 47) = w0 at *
 clear B0 hb0
 refine (dU C0 _ (dU T0)).mono ?_
 rintro e w1 ⟨rfl, d0⟩
 replace T1 := dH ((dU T1).wr d0 ((dU HSP).2 1 0 (by omega) (by omega) (by omega)))
 replace T2 := dH ((dU T2).wr d0 ((dU HSP).2 2 0 (by omega) (by omega) (by omega)))
 replace T3 := dH ((dU T3).wr d0 ((dU HSP).2 3 0 (by omega) (by omega) (by omega)))
 replace T4 := dH ((dU T4).wr d0 ((dU HSP).2 4 0 (by omega) (by omega) (by omega)))
 replace T5 := dH ((dU T5).wr d0 ((dU HSP).2 5 0 (by omega) (by omega) (by omega)))
 replace T6 := dH ((dU T6).wr d0 ((dU HSP).2 6 0 (by omega) (by omega) (by omega)))
 replace T7 := dH ((dU T7).wr d0 ((dU HSP).2 7 0 (by omega) (by omega) (by omega)))
 have D1 := D0.trans (d0.wider u0.1 u0.2)
 have z1 : w.heap.size < w1.heap.size := Nat.lt_of_lt_of_le z0 d0.size
 have X1 : Bx w1 w.heap.size [.slice da gd dc, .int .i64 f1, .slice sa gs sc, .slice la gl lc, .slice ea ge ec, .int .i64 f5, .slice wa gw wc, .slice na gn nc, .slice ra gr rc, .slice ta gt tc, .bool f10] := fun i u hu => (World.cell?_of_block (a := ⟨w.heap.size, i, none⟩) (d0.block w.heap.size z0 (.inr (by omega)))).trans (X0 i u hu)
 clear C0 T0 X0 z0 D0 d0
 have k2 := X1 2 _ rfl
 go_wp2_with fail
 refine (dU C1 _ (dU T1)).mono ?_
 rintro e w2 ⟨rfl, d1⟩
 replace T2 := dH ((dU T2).wr d1 ((dU HSP).2 2 1 (by omega) (by omega) (by omega)))
 replace T3 := dH ((dU T3).wr d1 ((dU HSP).2 3 1 (by omega) (by omega) (by omega)))
 replace T4 := dH ((dU T4).wr d1 ((dU HSP).2 4 1 (by omega) (by omega) (by omega)))
 replace T5 := dH ((dU T5).wr d1 ((dU HSP).2 5 1 (by omega) (by omega) (by omega)))
 replace T6 := dH ((dU T6).wr d1 ((dU HSP).2 6 1 (by omega) (by omega) (by omega)))
 replace T7 := dH ((dU T7).wr d1 ((dU HSP).2 7 1 (by omega) (by omega) (by omega)))
 have D2 := D1.trans (d1.wider u1.1 u1.2)
 have z2 : w.heap.size < w2.heap.size := Nat.lt_of_lt_of_le z1 d1.size
 have X2 : Bx w2 w.heap.size [.slice da gd dc, .int .i64 f1, .slice sa gs sc, .slice la gl lc, .slice ea ge ec, .int .i64 f5, .slice wa gw wc, .slice na gn nc, .slice ra gr rc, .slice ta gt tc, .bool f10] := fun i u hu => (World.cell?_of_block (a := ⟨w.heap.size, i, none⟩) (d1.block w.heap.size z1 (.inr (by omega)))).trans (X1 i u hu)
 clear k2
 clear C1 T1 X1 z1 D1 d1
 have k3 := X2 3 _ rfl
 go_wp2_with fail
 refine (dU C2 _ (dU T2)).mono ?_
 rintro e w3 ⟨rfl, d2⟩
 replace T3 := dH ((dU T3).wr d2 ((dU HSP).2 3 2 (by omega) (by omega) (by omega)))
 replace T4 := dH ((dU T4).wr d2 ((dU HSP).2 4 2 (by omega) (by omega) (by omega)))
 replace T5 := dH ((dU T5).wr d2 ((dU HSP).2 5 2 (by omega) (by omega) (by omega)))
 replace T6 := dH ((dU T6).wr d2 ((dU HSP).2 6 2 (by omega) (by omega) (by omega)))
 replace T7 := dH ((dU T7).wr d2 ((dU HSP).2 7 2 (by omega) (by omega) (by omega)))
 have D3 := D2.trans (d2.wider u2.1 u2.2)
 have z3 : w.heap.size < w3.heap.size := Nat.lt_of_lt_of_le z2 d2.size
 have X3 : Bx w3 w.heap.size [.slice da gd dc, .int .i64 f1, .slice sa gs sc, .slice la gl lc, .slice ea ge ec, .int .i64 f5, .slice wa gw wc, .slice na gn nc, .slice ra gr rc, .slice ta gt tc, .bool f10] := fun i u hu => (World.cell?_of_block (a := ⟨w.heap.size, i, none⟩) (d2.block w.heap.size z2 (.inr (by omega)))).trans (X2 i u hu)
 clear k3
 clear C2 T2 X2 z2 D2 d2
 have k4 := X3 4 _ rfl
 have k5 := X3 5 _ rfl
 go_wp2_with fail
 refine (dU C3 _ (dU T3)).mono ?_
 rintro e w4 ⟨rfl, d3⟩
 replace T4 := dH ((dU T4).wr d3 ((dU HSP).2 4 3 (by omega) (by omega) (by omega)))
 replace T5 := dH ((dU T5).wr d3 ((dU HSP).2 5 3 (by omega) (by omega) (by omega)))
 replace T6 := dH ((dU T6).wr d3 ((dU HSP).2 6 3 (by omega) (by omega) (by omega)))
 replace T7 := dH ((dU T7).wr d3 ((dU HSP).2 7 3 (by omega) (by omega) (by omega)))
 have D4 := D3.trans (d3.wider u3.1 u3.2)
 have z4 : w.heap.size < w4.heap.size := Nat.lt_of_lt_of_le z3 d3.size
 have X4 : Bx w4 w.heap.size [.slice da gd dc, .int .i64 f1, .slice sa gs sc, .slice la gl lc, .slice ea ge ec, .int .i64 f5, .slice wa gw wc, .slice na gn nc, .slice ra gr rc, .slice ta gt tc, .bool f10] := fun i u hu => (World.cell?_of_block (a := ⟨w.heap.size, i, none⟩) (d3.block w.heap.size z3 (.inr (by omega)))).trans (X3 i u hu)
 clear k4 k5
 clear C3 T3 X3 z3 D3 d3
 have k6 := X4 6 _ rfl
 go_wp2_with fail
 refine (dU C4 _ (dU T4)).mono ?_
 rintro e w5 ⟨rfl, d4⟩
 replace T5 := dH ((dU T5).wr d4 ((dU HSP).2 5 4 (by omega) (by omega) (by omega)))
 replace T6 := dH ((dU T6).wr d4 ((dU HSP).2 6 4 (by omega) (by omega) (by omega)))
 replace T7 := dH ((dU T7).wr d4 ((dU HSP).2 7 4 (by omega) (by omega) (by omega)))
 have D5 := D4.trans (d4.wider u4.1 u4.2)
 have z5 : w.heap.size < w5.heap.size := Nat.lt_of_lt_of_le z4 d4.size
 have X5 : Bx w5 w.heap.size [.slice da gd dc, .int .i64 f1, .slice sa gs sc, .slice la gl lc, .slice ea ge ec, .int .i64 f5, .slice wa gw wc, .slice na gn nc, .slice ra gr rc, .slice ta gt tc, .bool f10] := fun i u hu => (World.cell?_of_block (a := ⟨w.heap.size, i, none⟩) (d4.block w.heap.size z4 (.inr (by omega)))).trans (X4 i u hu)
 clear k6
 clear C4 T4 X4 z4 D4 d4
 have k7 := X5 7 _ rfl
 go_wp2_with fail
 refine (dU C5 _ (dU T5)).mono ?_
 rintro e w6 ⟨rfl, d5⟩
 replace T6 := dH ((dU T6).wr d5 ((dU HSP).2 6 5 (by omega) (by omega) (by omega)))
 replace T7 := dH ((dU T7).wr d5 ((dU HSP).2 7 5 (by omega) (by omega) (by omega)))
 have D6 := D5.trans (d5.wider u5.1 u5.2)
 have z6 : w.heap.size < w6.heap.size := Nat.lt_of_lt_of_le z5 d5.size
 have X6 : Bx w6 w.heap.size [.slice da gd dc, .int .i64 f1, .slice sa gs sc, .slice la gl lc, .slice ea ge ec, .int .i64 f5, .slice wa gw wc, .slice na gn nc, .slice ra gr rc, .slice ta gt tc, .bool f10] := fun i u hu => (World.cell?_of_block (a := ⟨w.heap.size, i, none⟩) (d5.block w.heap.size z5 (.inr (by omega)))).trans (X5 i u hu)
 clear k7
 clear C5 T5 X5 z5 D5 d5
 have k8 := X6 8 _ rfl
 go_wp2_with fail
 refine (dU C6 _ (dU T6)).mono ?_
 rintro e w7 ⟨rfl, d6⟩
 replace T7 := dH ((dU T7).wr d6 ((dU HSP).2 7 6 (by omega) (by omega) (by omega)))
 have D7 := D6.trans (d6.wider u6.1 u6.2)
 have z7 : w.heap.size < w7.heap.size := Nat.lt_of_lt_of_le z6 d6.size
 have X7 : Bx w7 w.heap.size [.slice da gd dc, .int .i64 f1, .slice sa gs sc, .slice la gl lc, .slice ea ge ec, .int .i64 f5, .slice wa gw wc, .slice na gn nc, .slice ra gr rc, .slice ta gt tc, .bool f10] := fun i u hu => (World.cell?_of_block (a := ⟨w.heap.size, i, none⟩) (d6.block w.heap.size z6 (.inr (by omega)))).trans (X6 i u hu)
 clear k8
 clear C6 T6 X6 z6 D6 d6
 have k9 := X7 9 _ rfl
 go_wp2_with fail
 refine (dU C7 _ (dU T7)).mono ?_
 rintro e w8 ⟨rfl, d7⟩
 have D8 := D7.trans (d7.wider u7.1 u7.2)
 have z8 : w.heap.size < w8.heap.size := Nat.lt_of_lt_of_le z7 d7.size
 have X8 : Bx w8 w.heap.size [.slice da gd dc, .int .i64 f1, .slice sa gs sc, .slice la gl lc, .slice ea ge ec, .int .i64 f5, .slice wa gw wc, .slice na gn nc, .slice ra gr rc, .slice ta gt tc, .bool f10] := fun i u hu => (World.cell?_of_block (a := ⟨w.heap.size, i, none⟩) (d7.block w.heap.size z7 (.inr (by omega)))).trans (X7 i u hu)
 clear k9
 clear C7 T7 X7 z7 D7 d7
 have D8 := dH D8
 clear X8 HSP sp u0 u1 u2 u3 u4 u5 u6 u7
 go_wp2
 go_ret
 exact ⟨rfl, trivial, dU D8⟩
end Go.Proofs.YtkiclbbialadlaaGreat
