/- Several texts in one: DpM, MnSc, MnSd, MsM. -/
import Derived.Test.YtkiclbbialadlaaGreatGz12
import Derived.Test.YtkiclbbialadlaaGreatMnSb
import Derived.Deep.DeepCutAuto
namespace Go.Proofs.YtkiclbbialadlaaGreat
open Go.ChangeShapes Go.WideShapes Go.ChangeAt Go.RowKit
set_option linter.unusedSimpArgs false
set_option linter.unusedVariables false
set_option maxRecDepth 100000
section
variable {n : Nat} {μ : Type} {Ow : Nat → Nat → Value → μ → World → Prop} {lo hi : Nat} {w wr w2 : World} {b off k : Nat} {rs : List (Pd n μ)} {s : Nat → Nat} {f : Nat → Pd n μ}
def MkD (Ow : Nat → Nat → Value → μ → World → Prop) (lo hi : Nat) (w wr : World) (b off : Nat) (rs : List (Pd n μ)) (s : Nat → Nat) (k : Nat) : Prop :=
 ∃ f : Nat → Pd n μ, RowG n Pd.c wr b off rs.length f ∧ (∀ i (h : i < rs.length), k ≤ i → f i = rs[i]) ∧ (∀ i (h : i < rs.length), k ≤ i → Ow (s i) (s (i + 1)) rs[i].val rs[i].m wr) ∧ Wr lo hi w wr ∧ hi ≤ wr.heap.size
structure MkMid (Ow : Nat → Nat → Value → μ → World → Prop) (lo hi : Nat) (w wr : World) (b off : Nat) (rs : List (Pd n μ)) (s : Nat → Nat) (k : Nat) (f : Nat → Pd n μ) : Prop where
 row : RowG n Pd.c wr b off rs.length f
 same : ∀ i (h : i < rs.length), k < i → f i = rs[i]
 own : ∀ i (h : i < rs.length), k < i → Ow (s i) (s (i + 1)) rs[i].val rs[i].m wr
 wrote : Wr lo hi w wr
 fit : hi ≤ wr.heap.size
theorem MkD.start (h : MkD Ow lo hi w wr b off rs s k) (hk : k < rs.length) : ∃ f, MkMid Ow lo hi w wr b off rs s k f ∧ f k = rs[k] ∧ Ow (s k) (s (k + 1)) rs[k].val rs[k].m wr := by
 obtain ⟨f, h1, h2, h3, h4, h5⟩ := h
 exact ⟨f, ⟨h1, fun i hi hk' => h2 i hi (by omega), fun i hi hk' => h3 i hi (by omega), h4, h5⟩, h2 k hk (Nat.le_refl _), h3 k hk (Nat.le_refl _)⟩
theorem MkMid.fin (h : MkMid Ow lo hi w wr b off rs s k f) : MkD Ow lo hi w wr b off rs s (k + 1) :=
 ⟨f, h.row, fun i hi hk => h.same i hi (by omega), fun i hi hk => h.own i hi (by omega), h.wrote, h.fit⟩
theorem MkMid.put (hS : SitsOf Ow) (h : MkMid Ow lo hi w wr b off rs s k f) (hk : k < rs.length) (hb1 : lo ≤ b) (hs0 : b < s 0) (hsp : Spn s rs.length lo hi) (j : Nat) (hj : j < n) (u : Value) (e : Pd n μ) (he : e.c = (f k).c.set j u) : MkMid Ow lo hi w (wr.setCell ⟨b, off + k * n + j, none⟩ u) b off rs s k (putG f k e) := by
 have hbh : b < hi := by have := hsp.hi 0 (Nat.zero_le _); omega
 refine ⟨h.row.put Pd.len hk j hj u e he, fun i hi hki => ?_, fun i hi hki => ?_, h.wrote.set hb1 hbh u, by simpa using h.fit⟩
 ·rw [putG_ne _ _ (by omega)]
  exact h.same i hi hki
 ·have a1 := hsp.mono i 0 (Nat.zero_le _) (by omega)
  have a2 := hsp.hi (i + 1) (by omega)
  have a3 := h.fit
  exact ((hS (h.own i hi hki) (by omega)).put (.inl (by omega)) u).now
theorem MkMid.sub (hS : SitsOf Ow) (h : MkMid Ow lo hi w wr b off rs s k f) (hk : k < rs.length) (hs0 : b < s 0) (hsp : Spn s rs.length lo hi) (hW : Wr (s k) (s (k + 1)) wr w2) : MkMid Ow lo hi w w2 b off rs s k f := by
 have l0 := hsp.lo k (by omega)
 have l1 := hsp.hi (k + 1) (by omega)
 have l2 := hsp.mono k 0 (Nat.zero_le _) (by omega)
 refine ⟨h.row.wr hW (.inl (by omega)), h.same, fun i hi hki => ?_, h.wrote.trans (hW.wider l0 l1), Nat.le_trans h.fit hW.size⟩
 have a1 := hsp.mono i (k + 1) (by omega) (by omega)
 have a2 := hsp.hi (i + 1) (by omega)
 have a3 := h.fit
 exact ((hS (h.own i hi hki) (by omega)).wr hW (.inr (by omega))).now
theorem MkMid.at (h : MkMid Ow lo hi w wr b off rs s k f) (hk : k < rs.length) (j : Nat) (u : Value) (hu : (f k).c[j]? = some u) : wr.cell? ⟨b, off + k * n + j, none⟩ = some u ∧ wr.frozen? ⟨b, off + k * n + j, none⟩ = false := h.row k hk j u hu
theorem OwD.marks {v : Value} {ms : List μ} {a : Option Addr} {m cap : Nat} (h : OwD n Ow lo hi (.slice a m cap) ms w) (hf : hi ≤ w.heap.size) (z : Pd n μ) : (ms = [] ∨ ∃ b off, ∃ rs : List (Pd n μ), ∃ s : Nat → Nat, a = some ⟨b, off, none⟩ ∧ rs.map Pd.m = ms ∧ lo ≤ b ∧ b < s 0 ∧ Spn s rs.length lo hi ∧ MkD Ow lo hi w w b off rs s 0) := by
 obtain ⟨rs, s, h1, h2, h3, h4, h5⟩ := h
 rcases Nat.eq_zero_or_pos rs.length with h0 | h0
 ·left
  rw [← h1, List.length_eq_zero_iff.1 h0]
  rfl
 ·right
  obtain ⟨b, off, rfl, hb1, Z0⟩ := h2.rowG h0 z
  have hs0 : b < s 0 := by
   rcases h3 with h | h
   ·rw [h] at h0; simp at h0
   ·exact h
  refine ⟨b, off, rs, s, rfl, h1, hb1, hs0, h4, _, Z0, fun i hi _ => ?_, fun i hi _ => h5 i hi, Wr.refl _ _ _, hf⟩
  show rs.getD i z = rs[i]
  rw [List.getD_eq_getElem?_getD, List.getElem?_eq_getElem hi]
  rfl
end
def mkL (k0 : Nat) (rs : List (Nst (List Int))) (i : Nat) : Nst (List Int) := ⟨(rs.getD i zeroL).a, (rs.getD i zeroL).c, marksN (k0 + sumL ((rs.map Nst.m).take i)) (rs.getD i zeroL).m.length⟩
def mkLs (k0 : Nat) (rs : List (Nst (List Int))) : List (Nst (List Int)) := (List.range rs.length).map (mkL k0 rs)
theorem mkLs_len (k0 : Nat) (rs : List (Nst (List Int))) : (mkLs k0 rs).length = rs.length := by simp [mkLs]
theorem mkLs_at (k0 : Nat) (rs : List (Nst (List Int))) (i : Nat) (h : i < rs.length) (h' : i < (mkLs k0 rs).length) : (mkLs k0 rs)[i] = ⟨rs[i].a, rs[i].c, marksN (k0 + sumL ((rs.map Nst.m).take i)) rs[i].m.length⟩ := by
 simp [mkLs, mkL, h]
def MarkL (lo hi k0 : Nat) (w wr : World) (rs : List (Nst (List Int))) (k : Nat) : Prop :=
 (∀ i (h : i < rs.length), OwN lo hi (Sv idL rs[i]) (if i < k then marksN (k0 + sumL ((rs.map Nst.m).take i)) rs[i].m.length else rs[i].m) wr) ∧ Wr lo hi w wr ∧ (∀ j, j < w.heap.size → (∀ p ∈ rs, p.m = [] ∨ bO (Sv idL p) ≠ j) → wr.heap[j]? = w.heap[j]?) ∧ hi ≤ wr.heap.size
theorem MarkL.step {lo hi k0 : Nat} {w wr w2 : World} {k : Nat} {rs : List (Nst (List Int))} {v : Value} (h : MarkL lo hi k0 w wr rs k) (hk : k < rs.length) (hA : Apart idL v rs)
  (hO : OwN lo hi (Sv idL rs[k]) (marksN (k0 + sumL ((rs.map Nst.m).take k)) rs[k].m.length) w2) (b1 b2 : Nat) (hW : Wr b1 b2 wr w2) (hd : (rs[k].m = [] ∧ b1 = 0 ∧ b2 = 0) ∨ (rs[k].m ≠ [] ∧ b1 = bO (Sv idL rs[k]) ∧ b2 = bO (Sv idL rs[k]) + 1)) (hW' : Wr lo hi wr w2) :
  MarkL lo hi k0 w w2 rs (k + 1) := by
 obtain ⟨h1, h2, h3, h4⟩ := h
 refine ⟨fun i hil => ?_, h2.trans hW', fun j hj hp => ?_, Nat.le_trans h4 hW'.size⟩
 ·by_cases e : i = k
  ·subst e
   rw [if_pos (by omega)]
   exact hO
  ·have ei : (if i < k + 1 then marksN (k0 + sumL ((rs.map Nst.m).take i)) rs[i].m.length else rs[i].m) = (if i < k then marksN (k0 + sumL ((rs.map Nst.m).take i)) rs[i].m.length else rs[i].m) := by
    by_cases e' : i < k
    ·rw [if_pos (by omega), if_pos e']
    ·rw [if_neg (by omega), if_neg e']
   rw [ei]
   refine (h1 i hil).wr hW ?_
   rcases hd with ⟨-, rfl, rfl⟩ | ⟨hn, rfl, rfl⟩
   ·exact .inr (.inr (Nat.zero_le _))
   ·rcases hA.1 i k hil hk e with h | h | h
    ·left
     change rs[i].m = [] at h
     rw [h]
     split
     ·rfl
     ·rfl
    ·exact absurd h hn
    ·exact .inr (by omega)
 ·rw [← h3 j hj hp]
  refine hW.block j (Nat.lt_of_lt_of_le hj h2.size) ?_
  rcases hd with ⟨-, rfl, rfl⟩ | ⟨hn, rfl, rfl⟩
  ·exact .inr (Nat.zero_le _)
  ·have := (hp _ (List.getElem_mem hk)).resolve_left hn
   omega
set_option maxHeartbeats 4000000 in
theorem markIntSS_in (lo hi : Nat) (v : Value) (rs : List (Nst (List Int))) (k0 : Nat) (w : World) (hk : k0 ≤ 536870912) (hl : sumL (rs.map Nst.m) ≤ 536870912) (hll : rs.length ≤ 9223372036854775807) (hf : hi ≤ w.heap.size) (h : OwL lo hi v rs w) :
  Calls Tryz.prog 93 #[v, .int .i64 (k0 : Int)] w fun e w' => e = .returned (.int .i64 ((k0 + sumL (rs.map Nst.m) : Nat) : Int)) ∧ OwL lo hi v (mkLs k0 rs) w' ∧ (∀ j, j < w.heap.size → (∀ p ∈ rs, p.m = [] ∨ bO (Sv idL p) ≠ j) → w'.heap[j]? = w.heap[j]?) ∧ Wr lo hi w w' := by
 have hO0 := h
 obtain ⟨hO, hB, hN, hA⟩ := h
 have HV : Hid (∀ W, (∀ j, j < w.heap.size → (∀ p ∈ rs, p.m = [] ∨ bO (Sv idL p) ≠ j) → W.heap[j]? = w.heap[j]?) → OwnRw 1 lsCl W lo v rs) := fun W hW => by
  have hlt := hO.ltG lsCl_len (by decide)
  obtain ⟨h0, a, cap, rfl, hcap, h⟩ := hO
  refine ⟨h0, a, cap, rfl, hcap, ?_⟩
  rcases h with h | ⟨b, off, rfl, hb', hc⟩
  ·exact .inl h
  ·rcases hlt with h | hlt
   ·exact .inl h
   ·have e := hW b hlt (fun p hp => by
     obtain ⟨i, hi, rfl⟩ := List.mem_iff_getElem.1 hp
     exact hA.2 i hi)
    exact .inr ⟨b, off, rfl, hb', fun i hi j u hu => ⟨(World.cell?_of_block (a := ⟨b, off + i * 1 + j, none⟩) e).trans (hc i hi j u hu).1, (World.frozen?_of_block (a := ⟨b, off + i * 1 + j, none⟩) e).trans (hc i hi j u hu).2⟩⟩
 obtain ⟨-, a, cap, rfl, hcap, -⟩ := hO.rw
 have HS : Hid (∀ k (hk : k < rs.length), rs[k].m.length ≤ 536870912 ∧ sumL ((rs.map Nst.m).take (k + 1)) = sumL ((rs.map Nst.m).take k) + rs[k].m.length ∧ sumL ((rs.map Nst.m).take (k + 1)) ≤ 536870912) := fun k hk => by
  have h1 := sumL_take (rs.map Nst.m) k (by simpa using hk)
  have h2 := sumL_le (rs.map Nst.m) (k + 1)
  rw [List.getElem_map] at h1
  exact ⟨by omega, h1, by omega⟩
 have HM0 : Hid (MarkL lo hi k0 w w rs 0) := ⟨fun i hi => by rw [if_neg (by omega)]; exact hN _ (List.getElem_mem hi), Wr.refl _ _ _, fun _ _ _ => rfl, hf⟩
 have FIN : Hid (∀ W : World, MarkL lo hi k0 w W rs rs.length → OwL lo hi (.slice a rs.length cap) (mkLs k0 rs) W) := fun W ⟨h1, h2, h3, h4⟩ => by
  have o := dU HV W h3
  refine ⟨?_, ?_, fun p hp => ?_, fun i j hi hj hij => ?_, fun i hi => ?_⟩
  ·obtain ⟨q0, a', cap', e, qc, q⟩ := o
   refine ⟨by rw [mkLs_len]; exact q0, a', cap', by rw [mkLs_len]; exact e, by rw [mkLs_len]; exact qc, ?_⟩
   rcases q with q | ⟨b, off, e1, hb', hc⟩
   ·left; subst q; rfl
   ·refine .inr ⟨b, off, e1, hb', fun i hi j u hu => hc i (by rw [mkLs_len] at hi; exact hi) j u ?_⟩
    rw [mkLs_at k0 rs i (by rw [mkLs_len] at hi; exact hi)] at hu
    unfold lsCl at hu ⊢
    simpa only [marksN_len] using hu
  ·rcases hB with h | h
   ·left; subst h; rfl
   ·exact .inr h
  ·obtain ⟨i, hi, rfl⟩ := List.mem_iff_getElem.1 hp
   have hi' : i < rs.length := by rw [mkLs_len] at hi; exact hi
   have q := h1 i hi'
   rw [if_pos hi'] at q
   rw [mkLs_at k0 rs i hi', sv_mk]
   exact q
  ·rw [mkLs_len] at hi hj
   rw [mkLs_at k0 rs i hi, mkLs_at k0 rs j hj, sv_mk, sv_mk]
   rcases hA.1 i j hi hj hij with h | h | h
   ·exact .inl ((nil_of_len (marksN_len _ _)).2 h)
   ·exact .inr (.inl ((nil_of_len (marksN_len _ _)).2 h))
   ·exact .inr (.inr h)
  ·rw [mkLs_len] at hi
   rw [mkLs_at k0 rs i hi, sv_mk]
   rcases hA.2 i hi with h | h
   ·exact .inl ((nil_of_len (marksN_len _ _)).2 h)
   ·exact .inr h
 have HA := dH hA
 have hcn : Hid (sumL ((rs.map Nst.m).take rs.length) = sumL (rs.map Nst.m)) := by rw [Hid, List.take_of_length_le (by simp)]
 clear hO hB hN hA hl hO0
 go_enter Tryz.func93, Tryz.ntmps93
 go_wp2
 go_loopw [5, 1] (fun x y wr => ∃ (k K : Nat), x = .int .i64 (k : Int) ∧ y = .int .i64 (K : Int) ∧ k ≤ rs.length ∧ K ≤ 1073741824 ∧ Hid (K = k0 + sumL ((rs.map Nst.m).take k)) ∧ Hid (MarkL lo hi k0 w wr rs k)) (fun x _ _ => rs.length - (intOf x).toNat)
 case atStart => exact ⟨0, k0, rfl, rfl, Nat.zero_le _, by omega, rfl, dU HM0⟩
 case round =>
  obtain ⟨k, K, rfl, rfl, hkk, hKb, hK, hM⟩ := hrel
  by_cases hlt : (k : Int) < (rs.length : Int)
  ·have hkl : k < rs.length := by omega
   obtain ⟨s1, s2, s3⟩ := dU HS k hkl
   have hrow := dU HV wr (dU hM).2.2.1
   obtain ⟨b, off, rfl, hc⟩ := hrow.rw.ls hkl
   have c0 := hc k hkl
   have CT : Hid (Calls Tryz.prog 49 #[Sv idL rs[k], .int .i64 (K : Int)] wr fun e w' => e = .returned (.int .i64 ((K + rs[k].m.length : Nat) : Int)) ∧ OwN lo hi (Sv idL rs[k]) (marksN K rs[k].m.length) w' ∧ (∃ b1 b2, Wr b1 b2 wr w' ∧ ((rs[k].m = [] ∧ b1 = 0 ∧ b2 = 0) ∨ (rs[k].m ≠ [] ∧ b1 = bO (Sv idL rs[k]) ∧ b2 = bO (Sv idL rs[k]) + 1))) ∧ Wr lo hi wr w') := by
    have q := (dU hM).1 k hkl
    rw [if_neg (by omega)] at q
    exact markN_in lo hi (Sv idL rs[k]) rs[k].m K wr (by omega) (by omega) (dU hM).2.2.2 q
   have ST : Hid (∀ w2, OwN lo hi (Sv idL rs[k]) (marksN K rs[k].m.length) w2 → ∀ b1 b2, Wr b1 b2 wr w2 → ((rs[k].m = [] ∧ b1 = 0 ∧ b2 = 0) ∨ (rs[k].m ≠ [] ∧ b1 = bO (Sv idL rs[k]) ∧ b2 = bO (Sv idL rs[k]) + 1)) → Wr lo hi wr w2 → MarkL lo hi k0 w w2 rs (k + 1)) := fun w2 hO b1 b2 hW hd hW' => by
    have hK' := dU hK
    subst hK'
    exact (dU hM).step hkl (dU HA) hO b1 b2 hW hd hW'
   have hK2 : Hid (K + rs[k].m.length = k0 + sumL ((rs.map Nst.m).take (k + 1))) := by rw [Hid, s2, dU hK]; omega
   have hKb2 : K + rs[k].m.length ≤ 1073741824 := by rw [dU hK2]; omega
   rw [sv_id] at CT ST
   generalize hy : rs[k] = y at *
   obtain ⟨ya, yc, yn⟩ := y
   simp only at *
   clear hM s1 s2 s3 hrow hc
   go_wp2_with fail
   refine (dU CT).mono ?_
   rintro r w2 ⟨rfl, o2, ⟨d1, d2, d3, hd1⟩, d4⟩
   have HM2 := dH (dU ST w2 o2 d1 d2 d3 hd1 d4)
   clear CT ST o2 d1 hd1 d3 d4 c0
   generalize K + yn.length = K' at *
   go_wp2
   go_roundw
   case rel => exact ⟨k + 1, K', by go_num, rfl, by omega, hKb2, hK2, dU HM2⟩
   case measure => simp [intOf]; omega
  ·have e1 : k = rs.length := by omega
   subst e1
   have e2 : Hid ((K : Int) = ((k0 + sumL (rs.map Nst.m) : Nat) : Int)) := by rw [Hid, dU hK, dU hcn]
   have O := dH (dU FIN wr (dU hM))
   have hw := dH (dU hM).2.1
   have hj := dH (dU hM).2.2.1
   clear hM hK FIN HM0 hcn HV
   go_wp2
   go_ret
   exact ⟨by have e := dU e2; simp only [Int.natCast_add] at e; simp [e], dU O, dU hj, dU hw⟩
theorem OwL.marked {lo hi b1 b2 : Nat} {v u : Value} {rs : List (Nst (List Int))} {w w' : World} {p : Prop} (h : OwL lo hi v rs w) (hW : Wr b1 b2 w w') (hd : (p ∧ b1 = 0 ∧ b2 = 0) ∨ (¬ p ∧ b1 = bO u ∧ b2 = bO u + 1)) (ho : p ∨ Off (bO u) v rs) : OwL lo hi v rs w' :=
 h.keep fun k hk hn => hW.block k hk (by
  rcases hd with ⟨-, rfl, rfl⟩ | ⟨hp, rfl, rfl⟩
  ·exact .inr (Nat.zero_le _)
  ·have := ho.resolve_left hp
   by_cases e : k = bO u
   ·subst e; exact absurd this hn
   ·omega)
def cntMendS (ms : List Mn) : Nat := sumPd (fun m => cntMend m + 3) ms
set_option maxHeartbeats 4000000 in
theorem markMendS_w (lo hi : Nat) (v : Value) (ms : List Mn) (k0 : Nat) (w : World) (hk : k0 ≤ 134217728) (hl : cntMendS ms ≤ 134217728) (hf : hi ≤ w.heap.size) (h : OwMendS lo hi v ms w) :
  Calls Tryz.prog 52 #[v, .int .i64 (k0 : Int)] w fun e w' => e = .returned (.int .i64 ((k0 + cntMendS ms : Nat) : Int)) ∧ Wr lo hi w w' := by
 obtain ⟨a0, cap0, rfl, hl0⟩ := formD h.rd
 rcases OwD.marks (v := .slice a0 ms.length cap0) h hf zeroMendS with rfl | ⟨b, off, rs, s, rfl, rfl, hb1, hs0, hsp, M0⟩
 ·have e2 : k0 + cntMendS [] = k0 := rfl
  rw [e2]
  clear hl h e2
  go_enter Tryz.func52, Tryz.ntmps52
  go_wp2
  go_rounds 1
  go_ret
  exact ⟨rfl, Wr.refl _ _ _⟩
 ·rw [List.length_map] at *
  have HC : Hid (∀ k (hk : k < rs.length), cntMendS ((rs.map Pd.m).take (k + 1)) = cntMendS ((rs.map Pd.m).take k) + (cntMend rs[k].m + 3) ∧ cntMendS ((rs.map Pd.m).take (k + 1)) ≤ 134217728) := fun k hk => by
   have h1 := sumPd_take (fun m => cntMend m + 3) (rs.map Pd.m) k (by simpa using hk)
   have h2 := sumPd_le (fun m => cntMend m + 3) (rs.map Pd.m) (k + 1)
   rw [List.getElem_map] at h1
   unfold cntMendS at hl ⊢
   exact ⟨h1, by omega⟩
  have hcn : Hid (cntMendS ((rs.map Pd.m).take rs.length) = cntMendS (rs.map Pd.m)) := by rw [Hid, List.take_of_length_le (by simp)]
  have HSP := dH hsp
  have HM0 := dH M0
  clear h M0 hsp hl
  go_enter Tryz.func52, Tryz.ntmps52
  go_wp2
  go_loopw [5, 1] (fun x y wr => ∃ (k K : Nat), x = .int .i64 (k : Int) ∧ y = .int .i64 (K : Int) ∧ k ≤ rs.length ∧ K ≤ 268435456 ∧ Hid (K = k0 + cntMendS ((rs.map Pd.m).take k)) ∧ Hid (MkD OwMend lo hi w wr b off rs s k)) (fun x _ _ => rs.length - (intOf x).toNat)
  case atStart => exact ⟨0, k0, rfl, rfl, Nat.zero_le _, by omega, rfl, dU HM0⟩
  case round =>
   obtain ⟨k, K, rfl, rfl, hkk, hKb, hK, hM⟩ := hrel
   by_cases hlt : (k : Int) < (rs.length : Int)
   ·have hkl : k < rs.length := by omega
    obtain ⟨s1, s2⟩ := dU HC k hkl
    obtain ⟨f, M, hfk, ho⟩ := (dU hM).start hkl
    have hsp := dU HSP
    have l1 := hsp.hi (k + 1) (by omega)
    have l2 := hsp.mono k 0 (Nat.zero_le _) (by omega)
    have hfit := M.fit
    have hF := formMend ho.rd
    obtain ⟨yc, yl, m, hy⟩ : ∃ yc yl m, rs[k] = (⟨yc, yl, m⟩ : Pd 6 Mn) := ⟨_, _, _, rfl⟩
    rw [hy] at hfk ho hF s1
    obtain ⟨sa, sc, ea, ec, wa, wc, hF, -, -, -⟩ := hF
    have hF := Pd.eq hF
    simp only at hF s1
    subst hF
    have hK2 : Hid (K + (cntMend m + 3) = k0 + cntMendS ((rs.map Pd.m).take (k + 1))) := by rw [Hid, s1, dU hK]; omega
    have hKb2 : K + (cntMend m + 3) ≤ 268435456 := by rw [dU hK2]; omega
    obtain ⟨z0, f0⟩ := M.at hkl 0 (.int .i64 m.bye) (by rw [hfk]; rfl)
    have M0 := M.put sitsOfMend hkl hb1 hs0 hsp 0 (by decide) (.int .i64 ((K : Int))) ⟨[.int .i64 ((K : Int)), .int .i64 m.epoch, .slice sa m.sealed.length sc, .slice ea m.seen.length ec, .bool m.planned, .slice wa m.wrote.length wc], rfl, m⟩ (by rw [hfk]; rfl)
    obtain ⟨z1, f1⟩ := M0.at hkl 1 (.int .i64 m.epoch) (by rw [putG_same]; rfl)
    have M1 := M0.put sitsOfMend hkl hb1 hs0 hsp 1 (by decide) (.int .i64 ((K : Int) + 1)) ⟨[.int .i64 ((K : Int)), .int .i64 ((K : Int) + 1), .slice sa m.sealed.length sc, .slice ea m.seen.length ec, .bool m.planned, .slice wa m.wrote.length wc], rfl, m⟩ (by rw [putG_same]; rfl)
    obtain ⟨sv, ev, wv, ls, e, hrs, o1, o2, o3, t1, t2, t3⟩ := ho
    cases e
    have hrl : ls.length ≤ 9223372036854775807 := o3.1.rw.1
    have S1 := dH t1
    have S2 := dH t2
    have S3 := dH t3
    have P1 := (((o1.sits (hi := s (k + 1)) (by omega)).put (b := b) (o := off + k * 6) (.inl (by omega)) (.int .i64 ((K : Int)))).put (b := b) (o := off + k * 6 + 1) (.inl (by omega)) (.int .i64 ((K : Int) + 1)))
    have P2 := (((o2.sits (hi := s (k + 1)) (by omega)).put (b := b) (o := off + k * 6) (.inl (by omega)) (.int .i64 ((K : Int)))).put (b := b) (o := off + k * 6 + 1) (.inl (by omega)) (.int .i64 ((K : Int) + 1)))
    have P3 := (((o3.sits (hi := s (k + 1)) (by omega)).put (b := b) (o := off + k * 6) (.inl (by omega)) (.int .i64 ((K : Int)))).put (b := b) (o := off + k * 6 + 1) (.inl (by omega)) (.int .i64 ((K : Int) + 1)))
    obtain ⟨z9, -⟩ := M1.at hkl 2 (.slice sa m.sealed.length sc) (by rw [putG_same]; rfl)
    simp only [Nat.add_zero] at z0 f0 z1 f1 P1 P2 P3 z9
    have hcm : cntMend m = m.sealed.length + (cntEntryS m.seen + sumL (ls.map Nst.m)) := by unfold cntMend cntIntSS; rw [hrs]
    have CE := markN_in (s k) (s (k + 1)) _ m.sealed (K + 2) _ (by omega) (by omega) P1.fit P1.now
    have e3 : ((K + 2 : Nat) : Int) = (K : Int) + 1 + 1 := by omega
    rw [e3] at CE
    have CE := dH CE
    have MH := dH M1
    have P2 := dH P2
    have P3 := dH P3
    simp only [Nat.add_zero] at MH
    rw [hcm] at hK2 hKb2
    have C2 := dH fun W (hW : s (k + 1) ≤ W.heap.size) h => markEntryS_in (s k) (s (k + 1)) (.slice ea m.seen.length ec) m.seen (K + 2 + m.sealed.length) W (by omega) (by omega) hW h
    have C3 := dH fun W (hW : s (k + 1) ≤ W.heap.size) h => markIntSS_in (s k) (s (k + 1)) (.slice wa m.wrote.length wc) ls (K + 2 + m.sealed.length + cntEntryS m.seen + 1) W (by omega) (by omega) hrl hW h
    clear M0 M1 M P1 o1 o2 o3 t1 t2 t3 hfk hy s1 s2 e3 hM hfit hcm hrs
    go_wp2_with fail
    refine (dU CE).mono ?_
    rintro r w1 ⟨rfl, -, ⟨b1, b2, d1, hd1⟩, wr1⟩
    have L2 := (dU P2).now.wr d1 (by
     rcases hd1 with ⟨h, rfl, rfl⟩ | ⟨h, rfl, rfl⟩
     ·exact .inr (.inr (Nat.zero_le _))
     ·rcases dU S1 with h' | h' | h'
      ·exact absurd h' h
      ·exact .inl h'
      ·exact .inr (by omega))
    have L3 := (dU P3).now.marked d1 hd1 (dU S2)
    have y1 : s (k + 1) ≤ w1.heap.size := Nat.le_trans (dU P2).fit wr1.size
    have N1 := (dU MH).sub sitsOfMend hkl hs0 (dU HSP) wr1
    obtain ⟨z3, -⟩ := N1.at hkl 3 (.slice ea m.seen.length ec) (by rw [putG_same]; rfl)
    have C2' := dH (dU C2 w1 y1 L2)
    have N1 := dH N1
    have L3 := dH L3
    clear CE MH d1 hd1 wr1 L2 C2 P2 P3 z0 f0 z1 f1 z9
    go_wp2_with fail
    refine (dU C2').mono ?_
    rintro r w2 ⟨rfl, -, ⟨b1', b2', d2, hd2⟩, wr2⟩
    have L3' := (dU L3).marked d2 hd2 (dU S3)
    have y2 : s (k + 1) ≤ w2.heap.size := Nat.le_trans y1 wr2.size
    have N2 := (dU N1).sub sitsOfMend hkl hs0 (dU HSP) wr2
    obtain ⟨z4, f4⟩ := N2.at hkl 4 (.bool m.planned) (by rw [putG_same]; rfl)
    have N3 := N2.put sitsOfMend hkl hb1 hs0 hsp 4 (by decide) (.bool (((K + 2 + m.sealed.length + cntEntryS m.seen : Nat) : Int) % 3 == 0)) ⟨[.int .i64 ((K : Int)), .int .i64 ((K : Int) + 1), .slice sa m.sealed.length sc, .slice ea m.seen.length ec, .bool ((((K + 2 + m.sealed.length + cntEntryS m.seen : Nat) : Int) % 3 == 0)), .slice wa m.wrote.length wc], rfl, m⟩ (by rw [putG_same]; rfl)
    obtain ⟨z5, -⟩ := N3.at hkl 5 (.slice wa m.wrote.length wc) (by rw [putG_same]; rfl)
    have P3' := (L3'.sits y2).put (b := b) (o := off + k * 6 + 4) (.inl (by omega)) (.bool (((K + 2 + m.sealed.length + cntEntryS m.seen : Nat) : Int) % 3 == 0))
    have C3' := dU C3 _ P3'.fit P3'.now
    have e4 : ((K + 2 + m.sealed.length + cntEntryS m.seen + 1 : Nat) : Int) = ((K + 2 + m.sealed.length + cntEntryS m.seen : Nat) : Int) + 1 := by omega
    rw [e4] at C3'
    have C3' := dH C3'
    have NH := dH N3
    have h25 : K + 2 + m.sealed.length + cntEntryS m.seen ≤ 268435456 := by omega
    have e5 : K + (m.sealed.length + (cntEntryS m.seen + sumL (ls.map Nst.m)) + 3) = K + 2 + m.sealed.length + cntEntryS m.seen + 1 + sumL (ls.map Nst.m) := by omega
    rw [e5] at hK2 hKb2
    generalize sumL (ls.map Nst.m) = cn at *
    generalize K + 2 + m.sealed.length + cntEntryS m.seen = Q at *
    clear C2' N1 L3 d2 hd2 wr2 L3' N2 N3 P3' C3 z3 e4 e5 S1 S2 S3 y1 y2
    go_wp2_with fail
    refine (dU C3').mono ?_
    rintro r w3 ⟨rfl, -, -, wr3⟩
    have M9 := dH ((dU NH).sub sitsOfMend hkl hs0 (dU HSP) wr3).fin
    clear C3' NH wr3 z4 f4 z5 hsp l1 l2
    have hq : Q + 1 + cn ≤ 268435456 := hKb2
    generalize hg : Q + 1 + cn = q at *
    clear hg
    go_wp2
    go_roundw
    case rel => exact ⟨k + 1, q, by go_num, by first | rfl | go_num, by omega, hq, hK2, dU M9⟩
    case measure => simp [intOf]; omega
   ·have e1 : k = rs.length := by omega
    subst e1
    have e2 : Hid ((K : Int) = ((k0 + cntMendS (rs.map Pd.m) : Nat) : Int)) := by rw [Hid, dU hK, dU hcn]
    obtain ⟨-, -, -, -, hw, -⟩ := dU hM
    have hw := dH hw
    clear hM hK HM0 hcn HC
    go_wp2
    go_ret
    exact ⟨by have e := dU e2; simp only [Int.natCast_add] at e; simp [e], dU hw⟩
end Go.Proofs.YtkiclbbialadlaaGreat
