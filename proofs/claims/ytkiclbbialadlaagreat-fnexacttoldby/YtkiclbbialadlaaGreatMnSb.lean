/- Mends, as the exact laws handle them: copied. -/
import Derived.Test.YtkiclbbialadlaaGreatGz19x
namespace Go.Proofs.YtkiclbbialadlaaGreat
open Go.ChangeShapes Go.WideShapes Go.ChangeAt Go.RowKit
set_option linter.unusedVariables false
set_option linter.unusedSimpArgs false
set_option maxRecDepth 100000

theorem makeL (n : Nat) (h : n ≤ 1073741824) (w : World) : (Instr.makeSlice 113 (.int .i64 (n : Int)) (.int .i64 (n : Int))).run Tryz.prog w = .ok (.slice (some ⟨w.heap.size, 0, none⟩) n n) (w.alloc (.cells (madeCells (Value.slice none 0 0).cells (n * 1)) 22)) := by
 obtain ⟨i0, hi, hz0, hz1, hz2⟩ := info_parts (elemL).info
 have := run_make (P := Tryz.prog) w 113 22 i0 _ Tryz.underlying113 hi hz0 .i64 .i64 (n : Int) (n : Int) (by omega) (by omega) (by rw [hz2]; omega) (by omega)
 rw [hz1] at this
 simpa using this
def zeroL : Nst (List Int) := ⟨none, 0, []⟩
theorem madeL (w : World) (n : Nat) (T : TypeId) : RowG 1 lsCl (w.alloc (.cells (madeCells #[.slice none 0 0] n) T)) w.heap.size 0 n (fun _ => zeroL) := by
 have h := RowG.made (sz := 1) (cl := lsCl) w #[.slice none 0 0] n T zeroL rfl (fun j u hu => by
  have : (lsCl zeroL) = [.slice none 0 0] := rfl
  rw [this] at hu
  simpa using hu)
 rw [Nat.mul_one] at h
 exact h
def CopL (wr : World) (b : Nat) (rs : List (Nst (List Int))) (k : Nat) (f : Nat → Nst (List Int)) : Prop :=
 RowG 1 lsCl wr b 0 rs.length f ∧ (∀ i (h : i < rs.length), i < k → (f i).m = rs[i].m ∧ OwnN wr (b + 1) (Sv idL (f i)) (f i).m) ∧ ∀ i j, i < k → j < k → i < j → (f i).m = [] ∨ (f j).m = [] ∨ bO (Sv idL (f i)) ≠ bO (Sv idL (f j))
theorem CopL.step {wr w2 : World} {b k : Nat} {rs : List (Nst (List Int))} {f : Nat → Nst (List Int)} (h : CopL wr b rs k f) (hk : k < rs.length) (hb2 : Below wr.heap.size wr w2) (hbw : b < wr.heap.size) {qa : Option Addr} {qc : Nat} (ho : OwnN w2 wr.heap.size (.slice qa rs[k].m.length qc) rs[k].m) :
  CopL (w2.setCell ⟨b, k, none⟩ (.slice qa rs[k].m.length qc)) b rs (k + 1) (putG f k ⟨qa, qc, rs[k].m⟩) := by
 obtain ⟨h1, h2, h3⟩ := h
 have far : ∀ {base : Nat} {v : Value} {xs : List Int}, OwnN w2 base v xs → b < base → OwnN (w2.setCell ⟨b, k, none⟩ (.slice qa rs[k].m.length qc)) base v xs := fun {base v xs} q hb => q.far hb _
 refine ⟨?_, fun i hi hik => ?_, fun i j hi hj hij => ?_⟩
 ·have r1 := (h1.below hb2).put lsCl_len hk 0 (by decide) (.slice qa rs[k].m.length qc) ⟨qa, qc, rs[k].m⟩ rfl
  simpa using r1
 ·by_cases e : i = k
  ·subst e
   rw [putG_same]
   exact ⟨rfl, far (ho.mono (by omega)) (by omega)⟩
  ·rw [putG_ne _ _ e]
   have q := h2 i hi (by omega)
   exact ⟨q.1, far (q.2.below hb2) (by omega)⟩
 ·by_cases e : j = k
  ·subst e
   rw [putG_same, putG_ne _ _ (by omega)]
   have q := h2 i (by omega) (by omega)
   rcases q.2.bs.lt with h | h
   ·exact .inl h
   ·rcases ho.ge with h' | h'
    ·exact .inr (.inl h')
    ·right; right
     have e1 : bO (Sv idL (⟨qa, qc, rs[j].m⟩ : Nst (List Int))) = bO (.slice qa rs[j].m.length qc) := rfl
     rw [e1]
     omega
  ·rw [putG_ne _ _ e, putG_ne _ _ (by omega)]
   exact h3 i j (by omega) (by omega) hij
theorem OwL.build {w : World} {lo hi b off n cap : Nat} {f : Nat → Nst (List Int)} (h : RowG 1 lsCl w b off n f) (hb : lo ≤ b) (hbl : n = 0 ∨ b < hi) (hn : n ≤ cap ∧ cap ≤ 9223372036854775807)
  (h4 : ∀ i, i < n → OwN lo hi (Sv idL (f i)) (f i).m w) (h5 : ∀ i j, i < n → j < n → i ≠ j → (f i).m = [] ∨ (f j).m = [] ∨ bO (Sv idL (f i)) ≠ bO (Sv idL (f j))) (h6 : ∀ i, i < n → (f i).m = [] ∨ bO (Sv idL (f i)) ≠ b) :
  OwL lo hi (.slice (some ⟨b, off, none⟩) n cap) ((List.range n).map f) w := by
 have hl : ((List.range n).map f).length = n := by simp
 have hg : ∀ i (hi : i < ((List.range n).map f).length), ((List.range n).map f)[i] = f i := fun i hi => by simp
 have o := RowG.own (es := (List.range n).map f) (base := lo) (cap := cap) h (by simp) (fun i hi => (hg i hi).symm) hb (by rw [hl]; omega) (by rw [hl]; exact hn)
 rw [hl] at o
 refine ⟨o, ?_, fun p hp => ?_, fun i j hi hj hij => ?_, fun i hi => ?_⟩
 ·rcases hbl with h | h
  ·subst h; exact .inl rfl
  ·exact .inr h
 ·obtain ⟨i, hi, rfl⟩ := List.mem_map.1 hp
  exact h4 i (List.mem_range.1 hi)
 ·rw [hg, hg]
  rw [hl] at hi hj
  exact h5 i j hi hj hij
 ·rw [hg]
  rw [hl] at hi
  exact h6 i hi
theorem CopL.own {w wr : World} {rs : List (Nst (List Int))} {f : Nat → Nst (List Int)} (h : CopL wr w.heap.size rs rs.length f) (hsz : w.heap.size < wr.heap.size) (hl : rs.length ≤ 9223372036854775807) : ∃ rs', rs'.map Nst.m = rs.map Nst.m ∧ OwL w.heap.size wr.heap.size (.slice (some ⟨w.heap.size, 0, none⟩) rs.length rs.length) rs' wr := by
 obtain ⟨h1, h2, h3⟩ := h
 refine ⟨(List.range rs.length).map f, ?_, OwL.build h1 (Nat.le_refl _) (.inr hsz) ⟨Nat.le_refl _, hl⟩ (fun i hi => ?_) (fun i j hi hj hij => ?_) fun i hi => ?_⟩
 ·rw [List.map_map]
  exact range_map_m (ms := rs.map Nst.m) (by simp) (fun i hi => by
   have hi' : i < rs.length := by simpa using hi
   rw [List.getElem_map]
   exact (h2 i hi' hi').1)
 ·have q := (h2 i hi hi).2
  exact ⟨q.mono (by omega), q.bs.lt⟩
 ·rcases Nat.lt_or_gt_of_ne hij with h | h
  ·exact h3 i j hi hj h
  ·rcases h3 j i hj hi h with h | h | h
   ·exact .inr (.inl h)
   ·exact .inl h
   ·exact .inr (.inr (Ne.symm h))
 ·rcases (h2 i hi hi).2.ge with h | h
  ·exact .inl h
  ·exact .inr (by omega)
set_option maxHeartbeats 4000000 in
theorem toIntSS_own (v : Value) (ms : List (List Int)) (w : World) (hl : sizIntSS ms ≤ 1048576) (hv : RdIntSS v ms w) :
  Calls Tryz.prog 118 #[v] w fun r w' => (∃ u rs, r = .returned u ∧ rs.map Nst.m = ms ∧ OwL w.heap.size w'.heap.size u rs w') ∧ Below w.heap.size w w' := by
 obtain ⟨rs, rfl, hr, hn⟩ := hv
 have hlen : rs.length ≤ 1048576 := by unfold sizIntSS at hl; rw [List.length_map] at hl; omega
 have HS : Hid (∀ k (hk : k < rs.length), rs[k].m.length ≤ 1048576) := fun k hk => by
  have h1 := sumL_mem (ms := rs.map Nst.m) (k := k) (by simpa using hk)
  rw [List.getElem_map] at h1
  unfold sizIntSS at hl
  omega
 have HV := dH fun W (hb : Below w.heap.size w W) => hr.below hb
 have HN : Hid (∀ W, Below w.heap.size w W → ∀ k (hk : k < rs.length), Ns W (.slice rs[k].a rs[k].m.length rs[k].c) rs[k].m) := fun W hb k hk => (hn _ (List.getElem_mem hk)).below hb
 obtain ⟨h0, a, cap, rfl, -, -⟩ := hr
 have hmk := makeL rs.length (by omega)
 clear hn hl
 go_enter Tryz.func118, Tryz.ntmps118
 go_wp2
 go_loopw [4] (fun x wr => ∃ (k : Nat) (f : Nat → Nst (List Int)), x = .int .i64 (k : Int) ∧ k ≤ rs.length ∧ Hid (CopL wr w.heap.size rs k f) ∧ w.heap.size < wr.heap.size ∧ Below w.heap.size w wr) (fun x _ => rs.length - (intOf x).toNat)
 case atStart => exact ⟨0, fun _ => zeroL, rfl, Nat.zero_le _, ⟨madeL w rs.length 22, fun i h h' => by omega, fun i j h => by omega⟩, by simp, (Below.refl _ _).alloc (Nat.le_refl _) _⟩
 case round =>
  obtain ⟨k, f, rfl, hk, hz, hsz, hb⟩ := hrel
  by_cases hlt : (k : Int) < (rs.length : Int)
  ·have hkl : k < rs.length := by omega
   obtain ⟨b, off, rfl, hc⟩ := (dU HV wr hb).ls hkl
   have c0 := hc k hkl
   have CE := dH fun W (hB : Below wr.heap.size wr W) => toIntS_any _ rs[k].m W (by have := dU HS k hkl; omega) (dU HN W (bT hb hB) k hkl)
   have hin : Hid (∀ (w2 : World) (qa : Option Addr) (qc : Nat), Below wr.heap.size wr w2 → OwnN w2 wr.heap.size (.slice qa rs[k].m.length qc) rs[k].m → CopL (w2.setCell ⟨w.heap.size, k, none⟩ (.slice qa rs[k].m.length qc)) w.heap.size rs (k + 1) (putG f k ⟨qa, qc, rs[k].m⟩)) := fun w2 qa qc hB ho => (dU hz).step hkl hB hsz ho
   have hrow : Hid (∀ W, Below wr.heap.size wr W → RowG 1 lsCl W w.heap.size 0 rs.length f) := fun W hB => (dU hz).1.below hB
   generalize rs[k] = y at *
   obtain ⟨ya, yc, yn⟩ := y
   simp only at *
   clear hc hz
   go_wp2_with fail
   refine (dU CE _ (Below.refl _ _)).mono ?_
   rintro r w2 ⟨⟨q, rfl, ho⟩, b2⟩
   obtain ⟨-, qa, qc, rfl, -, -⟩ := ho.bs
   have Z2 := dU hrow w2 b2
   obtain ⟨z0, f0⟩ := Z2 k hkl 0 _ rfl
   have Z3 := dH (dU hin w2 qa qc b2 ho)
   simp only [Nat.zero_add, Nat.add_zero, Nat.mul_one] at z0 f0
   have hb2 := bT hb b2
   have hb3 := dH (hb2.setCell (p := ⟨w.heap.size, k, none⟩) (Nat.le_refl _) (.slice qa yn.length qc))
   have hs2 : w.heap.size < (w2.setCell ⟨w.heap.size, k, none⟩ (.slice qa yn.length qc)).heap.size := by simpa using Nat.lt_of_lt_of_le hsz b2.size
   clear CE b2 c0 hb hrow Z2 hb2 hin ho
   go_wp2
   go_roundw
   case rel => exact ⟨k + 1, _, by go_num, by omega, Z3, hs2, dU hb3⟩
   case measure => simp [intOf]; omega
  ·have e1 : k = rs.length := by omega
   subst e1
   have O := dH ((dU hz).own hsz (by omega))
   clear hz HV HN HS
   go_wp2
   go_ret
   obtain ⟨rs', q1, q2⟩ := dU O
   first | exact ⟨⟨_, rs', rfl, q1, q2⟩, hb⟩ | exact ⟨⟨_, rfl, rs', q1, q2⟩, hb⟩
theorem OwL.off {lo hi b : Nat} {v : Value} {rs : List (Nst (List Int))} {w : World} (h : OwL lo hi v rs w) (hb : b < lo) : Off b v rs := by
 refine ⟨?_, fun p hp => ?_⟩
 ·rcases h.1.geG with h | h
  ·exact .inl h
  ·exact .inr (by omega)
 ·rcases (h.2.2.1 p hp).1.ge with h | h
  ·exact .inl h
  ·exact .inr (by omega)
theorem OwMend.made {B b1 b2 : Nat} {V : World} {m : Mn} {sv ev wv : Value} {rs : List (Nst (List Int))} (hr : rs.map Nst.m = m.wrote) (P : OwnN V B sv m.sealed) (p1 : m.sealed = [] ∨ bO sv < b1) (Q : OwnRw 4 Ent.cl V b1 ev m.seen) (q1 : m.seen = [] ∨ bO ev < b2) (R : OwL b2 V.heap.size wv rs V) (h1 : B ≤ b1) (h2 : b1 ≤ b2) : OwMend B V.heap.size (.agg #[.int .i64 m.bye, .int .i64 m.epoch, sv, ev, .bool m.planned, wv]) m V := by
 refine ⟨sv, ev, wv, rs, rfl, hr, ⟨P, P.bs.lt⟩, ⟨Q.mono h1, Q.lt⟩, R.wide (by omega) (Nat.le_refl _), ?_, ?_, ?_⟩
 ·rcases p1 with h | h
  ·exact .inl h
  ·rcases Q.ge with h' | h'
   ·exact .inr (.inl h')
   ·exact .inr (.inr (by omega))
 ·rcases p1 with h | h
  ·exact .inl h
  ·exact .inr (R.off (by omega))
 ·rcases q1 with h | h
  ·exact .inl h
  ·exact .inr (R.off h)
set_option maxHeartbeats 4000000 in
theorem toMend_ (v : Value) (m : Mn) (w : World) (hl : sizMend m ≤ 1048576) (h : RdMend v m w) :
  Calls Tryz.prog 71 #[v] w fun e w' => ∃ u, e = .returned u ∧ Sits (OwMend w.heap.size w'.heap.size u m) w.heap.size w'.heap.size w' ∧ Below w.heap.size w w' := by
 have ba : ∀ (w : World) o, Below w.heap.size w (w.alloc o) := fun w o => (Below.refl _ _).alloc (Nat.le_refl _) o
 obtain ⟨sv, ev, wv, rfl, r1, r2, r3⟩ := h
 have hl1 : m.sealed.length ≤ 1048576 := by unfold sizMend at hl; omega
 have hl2 : m.seen.length ≤ 1048576 := by unfold sizMend sizEntryS at hl; omega
 have hl3 : sizIntSS m.wrote ≤ 1048576 := by unfold sizMend at hl; omega
 have C1 := dH fun W (hb : Below w.heap.size w W) => toIntS_any sv m.sealed W (by omega) (r1.below hb)
 have C2 := dH fun W (hb : Below w.heap.size w W) => toEntryS_own ev m.seen W hl2 (r2.below hb)
 have C3 := dH fun W (hb : Below w.heap.size w W) => toIntSS_own wv m.wrote W hl3 (RdK.below r3 hb)
 obtain ⟨-, sa, sc, rfl, -, -⟩ := r1
 obtain ⟨ea, ec, rfl, -⟩ := formEntryS r2
 obtain ⟨wa, wc, rfl, -⟩ := formK r3
 have EX : Hid (∀ (W : World) (b1 b2 : Nat) (u1 u2 u3 : Value) (rs : List (Nst (List Int))), rs.map Nst.m = m.wrote → OwnN W w.heap.size u1 m.sealed → (m.sealed = [] ∨ bO u1 < b1) → OwnRw 4 Ent.cl W b1 u2 m.seen → (m.seen = [] ∨ bO u2 < b2) → OwL b2 W.heap.size u3 rs W → w.heap.size ≤ b1 → b1 ≤ b2 → Sits (OwMend w.heap.size W.heap.size (.agg #[.int .i64 m.bye, .int .i64 m.epoch, u1, u2, .bool m.planned, u3]) m) w.heap.size W.heap.size W) := fun W b1 b2 u1 u2 u3 rs hr P p1 Q q1 R h1 h2 => OwMend.sits (OwMend.made hr P p1 Q q1 R h1 h2) (Nat.le_refl _)
 generalize m.bye = f0 at *
 generalize m.epoch = f1 at *
 generalize m.planned = f4 at *
 have X0 := (Bx.new w [.int .i64 f0, .int .i64 f1, .slice sa m.sealed.length sc, .slice ea m.seen.length ec, .bool f4, .slice wa m.wrote.length wc] 115).below (bT (ba _ (.cells #[.int .i64 0, .int .i64 0, .slice none 0 0, .slice none 0 0, .bool false, .slice none 0 0] 133)) (ba _ (.cells #[.int .i64 f0, .int .i64 f1, .slice none 0 0, .slice none 0 0, .bool false, .slice none 0 0] 133)))
 have Y0 := (BxZ.new (B := w.heap.size) (w.alloc (.cells #[.int .i64 f0, .int .i64 f1, .slice sa m.sealed.length sc, .slice ea m.seen.length ec, .bool f4, .slice wa m.wrote.length wc] 115)) [.int .i64 0, .int .i64 0, .slice none 0 0, .slice none 0 0, .bool false, .slice none 0 0] 133 (by simp)).below (ba _ (.cells #[.int .i64 f0, .int .i64 f1, .slice none 0 0, .slice none 0 0, .bool false, .slice none 0 0] 133))
 have Z0 := BxZ.new (B := w.heap.size) ((w.alloc (.cells #[.int .i64 f0, .int .i64 f1, .slice sa m.sealed.length sc, .slice ea m.seen.length ec, .bool f4, .slice wa m.wrote.length wc] 115)).alloc (.cells #[.int .i64 0, .int .i64 0, .slice none 0 0, .slice none 0 0, .bool false, .slice none 0 0] 133)) [.int .i64 f0, .int .i64 f1, .slice none 0 0, .slice none 0 0, .bool false, .slice none 0 0] 133 (by simp <;> omega)
 have B0 := bT (bT (ba w (.cells #[.int .i64 f0, .int .i64 f1, .slice sa m.sealed.length sc, .slice ea m.seen.length ec, .bool f4, .slice wa m.wrote.length wc] 115)) (ba _ (.cells #[.int .i64 0, .int .i64 0, .slice none 0 0, .slice none 0 0, .bool false, .slice none 0 0] 133))) (ba _ (.cells #[.int .i64 f0, .int .i64 f1, .slice none 0 0, .slice none 0 0, .bool false, .slice none 0 0] 133))
 have e1 : (w.alloc (.cells #[.int .i64 f0, .int .i64 f1, .slice sa m.sealed.length sc, .slice ea m.seen.length ec, .bool f4, .slice wa m.wrote.length wc] 115)).heap.size = w.heap.size + 1 := by simp
 have e2 : ((w.alloc (.cells #[.int .i64 f0, .int .i64 f1, .slice sa m.sealed.length sc, .slice ea m.seen.length ec, .bool f4, .slice wa m.wrote.length wc] 115)).alloc (.cells #[.int .i64 0, .int .i64 0, .slice none 0 0, .slice none 0 0, .bool false, .slice none 0 0] 133)).heap.size = w.heap.size + 1 + 1 := by simp
 rw [e1] at Y0
 rw [e2] at Z0
 clear e1 e2 r2 r3 hl
 go_enter Tryz.func71, Tryz.ntmps71
 go_wp2_with fail
 generalize (((w.alloc (.cells #[.int .i64 f0, .int .i64 f1, .slice sa m.sealed.length sc, .slice ea m.seen.length ec, .bool f4, .slice wa m.wrote.length wc] 115)).alloc (.cells #[.int .i64 0, .int .i64 0, .slice none 0 0, .slice none 0 0, .bool false, .slice none 0 0] 133)).alloc (.cells #[.int .i64 f0, .int .i64 f1, .slice none 0 0, .slice none 0 0, .bool false, .slice none 0 0] 133)) = w0 at *
 have hlt := Z0.lt
 refine (dU C1 _ B0).mono ?_
 rintro r w1 ⟨⟨u1, rfl, O1⟩, b1⟩
 have hs1 := b1.size
 obtain ⟨-, a1, c1, rfl, -, -⟩ := O1.bs
 have B1 := bT B0 b1
 have X1 := X0.below b1
 have Y1 := Y0.below b1
 have Z1 := Z0.below b1
 have k3 := X1 3 _ rfl
 obtain ⟨z2, g2⟩ := Z1.2 2 _ rfl
 have X2 := dH (X1.farB (b' := w.heap.size + 1 + 1) (o := 2) (by omega) (.slice a1 m.sealed.length c1))
 have k3' := (dU X2) 3 _ rfl
 have Y2 := dH (Y1.far (b' := w.heap.size + 1 + 1) (o := 2) (by omega) (.slice a1 m.sealed.length c1))
 have Z2 := dH (Z1.put 2 (.slice a1 m.sealed.length c1))
 have O2 := dH (O1.far (b := w.heap.size + 1 + 1) (o := 2) (by omega) (.slice a1 m.sealed.length c1))
 have L2 := (dU O2).bs.lt
 have B2 := B1.setCell (p := ⟨w.heap.size + 1 + 1, 2, none⟩) (by simp only; omega) (.slice a1 m.sealed.length c1)
 have s2 : w1.heap.size ≤ (w1.setCell ⟨w.heap.size + 1 + 1, 2, none⟩ (.slice a1 m.sealed.length c1)).heap.size := by simp
 clear X0 Y0 Z0 B0 C1 b1 O1 X1 Y1 Z1 B1
 go_wp2_with fail
 generalize w1.setCell ⟨w.heap.size + 1 + 1, 2, none⟩ (.slice a1 m.sealed.length c1) = w2 at *
 clear z2 g2 k3
 refine (dU C2 _ B2).mono ?_
 rintro r w3 ⟨⟨u3, rfl, O3⟩, b3⟩
 obtain ⟨a3, c3, rfl, -⟩ := formEntryS (OwnRw.rw O3)
 have hs3 := b3.size
 have B3 := bT B2 b3
 have X3 := (dU X2).below b3
 have Y3 := (dU Y2).below b3
 have Z3 := (dU Z2).below b3
 have P3 := (dU O2).below b3
 have k4 := X3 4 _ rfl
 obtain ⟨z3, g3⟩ := Z3.2 3 _ rfl
 obtain ⟨z4, g4⟩ := Z3.2 4 _ rfl
 have X4 := dH ((X3.farB (b' := w.heap.size + 1 + 1) (o := 3) (by omega) (.slice a3 m.seen.length c3)).farB (b' := w.heap.size + 1 + 1) (o := 4) (by omega) (.bool f4))
 have k5 := (dU X4) 5 _ rfl
 have k5a := X3 5 _ rfl
 have Y4 := dH ((Y3.far (b' := w.heap.size + 1 + 1) (o := 3) (by omega) (.slice a3 m.seen.length c3)).far (b' := w.heap.size + 1 + 1) (o := 4) (by omega) (.bool f4))
 have Z4 := dH ((Z3.put 3 (.slice a3 m.seen.length c3)).put 4 (.bool f4))
 have P4 := dH ((P3.far (b := w.heap.size + 1 + 1) (o := 3) (by omega) (.slice a3 m.seen.length c3)).far (b := w.heap.size + 1 + 1) (o := 4) (by omega) (.bool f4))
 have Q4 := dH ((O3.farE (b := w.heap.size + 1 + 1) (o := 3) (by omega) (.slice a3 m.seen.length c3)).farE (b := w.heap.size + 1 + 1) (o := 4) (by omega) (.bool f4))
 have L4 := (dU Q4).lt
 have B4 := (B3.setCell (p := ⟨w.heap.size + 1 + 1, 3, none⟩) (by simp only; omega) (.slice a3 m.seen.length c3)).setCell (p := ⟨w.heap.size + 1 + 1, 4, none⟩) (by simp only; omega) (.bool f4)
 have s4 : w3.heap.size ≤ ((w3.setCell ⟨w.heap.size + 1 + 1, 3, none⟩ (.slice a3 m.seen.length c3)).setCell ⟨w.heap.size + 1 + 1, 4, none⟩ (.bool f4)).heap.size := by simp
 clear X2 Y2 Z2 O2 B2 C2 b3 O3 X3 Y3 Z3 P3 B3 k3'
 go_wp2_with fail
 generalize (w3.setCell ⟨w.heap.size + 1 + 1, 3, none⟩ (.slice a3 m.seen.length c3)).setCell ⟨w.heap.size + 1 + 1, 4, none⟩ (.bool f4) = w4 at *
 clear z3 g3 z4 g4 k4 k5a
 refine (dU C3 _ B4).mono ?_
 rintro r w5 ⟨⟨u5, rs, rfl, hrs, O5⟩, b5⟩
 obtain ⟨a5, c5, e5, -⟩ := formK O5.rd
 have hrl : (rs.map Nst.m).length = m.wrote.length := by rw [hrs]
 rw [hrl] at e5
 subst e5
 have hs5 := b5.size
 have B5 := bT B4 b5
 have Y5 := (dU Y4).below b5
 have Z5 := (dU Z4).below b5
 have P5 := (dU P4).below b5
 have Q5 := (dU Q4).below b5
 obtain ⟨z0, g0⟩ := Z5.2 0 _ rfl
 obtain ⟨z1, g1⟩ := Z5.2 1 _ rfl
 obtain ⟨z2, g2⟩ := Z5.2 2 _ rfl
 obtain ⟨z3, g3⟩ := Z5.2 3 _ rfl
 obtain ⟨z4, g4⟩ := Z5.2 4 _ rfl
 obtain ⟨z5, g5⟩ := Z5.2 5 _ rfl
 obtain ⟨y0, p0⟩ := Y5.2 0 _ rfl
 obtain ⟨y1, p1⟩ := Y5.2 1 _ rfl
 obtain ⟨y2, p2⟩ := Y5.2 2 _ rfl
 obtain ⟨y3, p3⟩ := Y5.2 3 _ rfl
 obtain ⟨y4, p4⟩ := Y5.2 4 _ rfl
 obtain ⟨y5, p5⟩ := Y5.2 5 _ rfl
 have YY := dH (((((((Y5.far (b' := w.heap.size + 1 + 1) (o := 5) (by omega) (.slice a5 m.wrote.length c5)).put 0 (.int .i64 f0)).put 1 (.int .i64 f1)).put 2 (.slice a1 m.sealed.length c1)).put 3 (.slice a3 m.seen.length c3)).put 4 (.bool f4)).put 5 (.slice a5 m.wrote.length c5))
 have PP := dH (((((((P5.far (b := w.heap.size + 1 + 1) (o := 5) (by omega) (.slice a5 m.wrote.length c5)).far (b := w.heap.size + 1) (o := 0) (by omega) (.int .i64 f0)).far (b := w.heap.size + 1) (o := 1) (by omega) (.int .i64 f1)).far (b := w.heap.size + 1) (o := 2) (by omega) (.slice a1 m.sealed.length c1)).far (b := w.heap.size + 1) (o := 3) (by omega) (.slice a3 m.seen.length c3)).far (b := w.heap.size + 1) (o := 4) (by omega) (.bool f4)).far (b := w.heap.size + 1) (o := 5) (by omega) (.slice a5 m.wrote.length c5))
 have QQ := dH (((((((Q5.farE (b := w.heap.size + 1 + 1) (o := 5) (by omega) (.slice a5 m.wrote.length c5)).farE (b := w.heap.size + 1) (o := 0) (by omega) (.int .i64 f0)).farE (b := w.heap.size + 1) (o := 1) (by omega) (.int .i64 f1)).farE (b := w.heap.size + 1) (o := 2) (by omega) (.slice a1 m.sealed.length c1)).farE (b := w.heap.size + 1) (o := 3) (by omega) (.slice a3 m.seen.length c3)).farE (b := w.heap.size + 1) (o := 4) (by omega) (.bool f4)).farE (b := w.heap.size + 1) (o := 5) (by omega) (.slice a5 m.wrote.length c5))
 have RR := dH (((((((O5.far (b := w.heap.size + 1 + 1) (o := 5) (by omega) (.slice a5 m.wrote.length c5)).far (b := w.heap.size + 1) (o := 0) (by omega) (.int .i64 f0)).far (b := w.heap.size + 1) (o := 1) (by omega) (.int .i64 f1)).far (b := w.heap.size + 1) (o := 2) (by omega) (.slice a1 m.sealed.length c1)).far (b := w.heap.size + 1) (o := 3) (by omega) (.slice a3 m.seen.length c3)).far (b := w.heap.size + 1) (o := 4) (by omega) (.bool f4)).far (b := w.heap.size + 1) (o := 5) (by omega) (.slice a5 m.wrote.length c5))
 have BB := dH (((((((B5.setCell (p := ⟨w.heap.size + 1 + 1, 5, none⟩) (by simp only; omega) (.slice a5 m.wrote.length c5)).setCell (p := ⟨w.heap.size + 1, 0, none⟩) (by simp only; omega) (.int .i64 f0)).setCell (p := ⟨w.heap.size + 1, 1, none⟩) (by simp only; omega) (.int .i64 f1)).setCell (p := ⟨w.heap.size + 1, 2, none⟩) (by simp only; omega) (.slice a1 m.sealed.length c1)).setCell (p := ⟨w.heap.size + 1, 3, none⟩) (by simp only; omega) (.slice a3 m.seen.length c3)).setCell (p := ⟨w.heap.size + 1, 4, none⟩) (by simp only; omega) (.bool f4)).setCell (p := ⟨w.heap.size + 1, 5, none⟩) (by simp only; omega) (.slice a5 m.wrote.length c5))
 have hV : w5.heap.size = (((((((w5.setCell ⟨w.heap.size + 1 + 1, 5, none⟩ (.slice a5 m.wrote.length c5)).setCell ⟨w.heap.size + 1, 0, none⟩ (.int .i64 f0)).setCell ⟨w.heap.size + 1, 1, none⟩ (.int .i64 f1)).setCell ⟨w.heap.size + 1, 2, none⟩ (.slice a1 m.sealed.length c1)).setCell ⟨w.heap.size + 1, 3, none⟩ (.slice a3 m.seen.length c3)).setCell ⟨w.heap.size + 1, 4, none⟩ (.bool f4)).setCell ⟨w.heap.size + 1, 5, none⟩ (.slice a5 m.wrote.length c5)).heap.size := by simp
 have HRS := dH hrs
 have HRL := dH hrl
 clear X4 Y4 Z4 P4 Q4 B4 C3 b5 O5 B5 Y5 Z5 P5 Q5 k5 hrs hrl
 go_wp2_with fail
 generalize (((((((w5.setCell ⟨w.heap.size + 1 + 1, 5, none⟩ (.slice a5 m.wrote.length c5)).setCell ⟨w.heap.size + 1, 0, none⟩ (.int .i64 f0)).setCell ⟨w.heap.size + 1, 1, none⟩ (.int .i64 f1)).setCell ⟨w.heap.size + 1, 2, none⟩ (.slice a1 m.sealed.length c1)).setCell ⟨w.heap.size + 1, 3, none⟩ (.slice a3 m.seen.length c3)).setCell ⟨w.heap.size + 1, 4, none⟩ (.bool f4)).setCell ⟨w.heap.size + 1, 5, none⟩ (.slice a5 m.wrote.length c5)) = V at *
 have q0 := ((dU YY).2 0 _ rfl).1
 have q1 := ((dU YY).2 1 _ rfl).1
 have q2 := ((dU YY).2 2 _ rfl).1
 have q3 := ((dU YY).2 3 _ rfl).1
 have q4 := ((dU YY).2 4 _ rfl).1
 have q5 := ((dU YY).2 5 _ rfl).1
 clear z0 z1 z2 z3 z4 z5 g0 g1 g2 g3 g4 g5 y0 y1 y2 y3 y4 y5 p0 p1 p2 p3 p4 p5
 have RR' := dU RR
 rw [hV] at RR'
 refine bodyPost_ret (v := .agg #[.int .i64 f0, .int .i64 f1, .slice a1 m.sealed.length c1, .slice a3 m.seen.length c3, .bool f4, .slice a5 m.wrote.length c5]) (by simp [results, Tryz.results71, go_sem, q0, q1, q2, q3, q4, q5]) rfl ⟨_, rfl, dU EX V w2.heap.size w4.heap.size _ _ _ rs (dU HRS) ((dU PP).mono (by omega)) L2 (dU QQ) L4 RR' (by omega) (by omega), dU BB⟩
end Go.Proofs.YtkiclbbialadlaaGreat
