/- Several texts in one: MnSb, MsR. -/
import Derived.Test.YtekgkjomdpjkbaaGreatGz19x
import Derived.Test.YtekgkjomdpjkbaaGreatGz20
import Derived.Deep.RegionHeld3
import Derived.Deep.DeepCutAuto
import Derived.Laws.MakeOwn
namespace Go.Proofs.YtekgkjomdpjkbaaGreat
open Go.ChangeShapes Go.WideShapes Go.ChangeAt Go.RowKit
set_option linter.unusedSimpArgs false
set_option linter.unusedVariables false
set_option maxRecDepth 100000
theorem makeL (n : Nat) (h : n ≤ 1073741824) (w : World) : (Instr.makeSlice 99 (.int .i64 (n : Int)) (.int .i64 (n : Int))).run Tryz.prog w = .ok (.slice (some ⟨w.heap.size, 0, none⟩) n n) (w.alloc (.cells (madeCells (Value.slice none 0 0).cells (n * 1)) 22)) := by
 obtain ⟨i0, hi, hz0, hz1, hz2⟩ := info_parts (elemL).info
 have := run_make (P := Tryz.prog) w 99 22 i0 _ Tryz.underlying99 hi hz0 .i64 .i64 (n : Int) (n : Int) (by omega) (by omega) (by rw [hz2]; omega) (by omega)
 rw [hz1] at this
 simpa using this
def zeroL : Nst (List Int) := ⟨none, 0, []⟩
theorem madeL (w : World) (n : Nat) (T : TypeId) : RowG 1 lsCl (w.alloc (.cells (madeCells #[.slice none 0 0] n) T)) w.heap.size 0 n (fun _ => zeroL) := by
 have h := RowG.made (sz := 1) (cl := lsCl) w #[.slice none 0 0] n T zeroL rfl (fun j u hu => by
  have : (lsCl zeroL) = [.slice none 0 0] := rfl
  rw [this] at hu
  simpa using hu)
 rw [Nat.mul_one] at h
 exact h
def CopL (wr : World) (b : Nat) (rs : List (Nst (List Int))) (k : Nat) (f : Nat → Nst (List Int)) : Prop :=
 RowG 1 lsCl wr b 0 rs.length f ∧ (∀ i (h : i < rs.length), i < k → (f i).m = rs[i].m ∧ OwnN wr (b + 1) (Sv idL (f i)) (f i).m) ∧ ∀ i j, i < k → j < k → i < j → (f i).m = [] ∨ (f j).m = [] ∨ bO (Sv idL (f i)) ≠ bO (Sv idL (f j))
theorem CopL.step {wr w2 : World} {b k : Nat} {rs : List (Nst (List Int))} {f : Nat → Nst (List Int)} (h : CopL wr b rs k f) (hk : k < rs.length) (hb2 : Below wr.heap.size wr w2) (hbw : b < wr.heap.size) {qa : Option Addr} {qc : Nat} (ho : OwnN w2 wr.heap.size (.slice qa rs[k].m.length qc) rs[k].m) :
  CopL (w2.setCell ⟨b, k, none⟩ (.slice qa rs[k].m.length qc)) b rs (k + 1) (putG f k ⟨qa, qc, rs[k].m⟩) := by
 obtain ⟨h1, h2, h3⟩ := h
 have far : ∀ {base : Nat} {v : Value} {xs : List Int}, OwnN w2 base v xs → b < base → OwnN (w2.setCell ⟨b, k, none⟩ (.slice qa rs[k].m.length qc)) base v xs := fun {base v xs} q hb => q.far hb _
 refine ⟨?_, fun i hi hik => ?_, fun i j hi hj hij => ?_⟩
 ·have r1 := (h1.below hb2).put lsCl_len hk 0 (by decide) (.slice qa rs[k].m.length qc) ⟨qa, qc, rs[k].m⟩ rfl
  simpa using r1
 ·by_cases e : i = k
  ·subst e
   rw [putG_same]
   exact ⟨rfl, far (ho.mono (by omega)) (by omega)⟩
  ·rw [putG_ne _ _ e]
   have q := h2 i hi (by omega)
   exact ⟨q.1, far (q.2.below hb2) (by omega)⟩
 ·by_cases e : j = k
  ·subst e
   rw [putG_same, putG_ne _ _ (by omega)]
   have q := h2 i (by omega) (by omega)
   rcases q.2.bs.lt with h | h
   ·exact .inl h
   ·rcases ho.ge with h' | h'
    ·exact .inr (.inl h')
    ·right; right
     have e1 : bO (Sv idL (⟨qa, qc, rs[j].m⟩ : Nst (List Int))) = bO (.slice qa rs[j].m.length qc) := rfl
     rw [e1]
     omega
  ·rw [putG_ne _ _ e, putG_ne _ _ (by omega)]
   exact h3 i j (by omega) (by omega) hij
theorem OwL.build {w : World} {lo hi b off n cap : Nat} {f : Nat → Nst (List Int)} (h : RowG 1 lsCl w b off n f) (hb : lo ≤ b) (hbl : n = 0 ∨ b < hi) (hn : n ≤ cap ∧ cap ≤ 9223372036854775807)
  (h4 : ∀ i, i < n → OwN lo hi (Sv idL (f i)) (f i).m w) (h5 : ∀ i j, i < n → j < n → i ≠ j → (f i).m = [] ∨ (f j).m = [] ∨ bO (Sv idL (f i)) ≠ bO (Sv idL (f j))) (h6 : ∀ i, i < n → (f i).m = [] ∨ bO (Sv idL (f i)) ≠ b) :
  OwL lo hi (.slice (some ⟨b, off, none⟩) n cap) ((List.range n).map f) w := by
 have hl : ((List.range n).map f).length = n := by simp
 have hg : ∀ i (hi : i < ((List.range n).map f).length), ((List.range n).map f)[i] = f i := fun i hi => by simp
 have o := RowG.own (es := (List.range n).map f) (base := lo) (cap := cap) h (by simp) (fun i hi => (hg i hi).symm) hb (by rw [hl]; omega) (by rw [hl]; exact hn)
 rw [hl] at o
 refine ⟨o, ?_, fun p hp => ?_, fun i j hi hj hij => ?_, fun i hi => ?_⟩
 ·rcases hbl with h | h
  ·subst h; exact .inl rfl
  ·exact .inr h
 ·obtain ⟨i, hi, rfl⟩ := List.mem_map.1 hp
  exact h4 i (List.mem_range.1 hi)
 ·rw [hg, hg]
  rw [hl] at hi hj
  exact h5 i j hi hj hij
 ·rw [hg]
  rw [hl] at hi
  exact h6 i hi
theorem CopL.own {w wr : World} {rs : List (Nst (List Int))} {f : Nat → Nst (List Int)} (h : CopL wr w.heap.size rs rs.length f) (hsz : w.heap.size < wr.heap.size) (hl : rs.length ≤ 9223372036854775807) : ∃ rs', rs'.map Nst.m = rs.map Nst.m ∧ OwL w.heap.size wr.heap.size (.slice (some ⟨w.heap.size, 0, none⟩) rs.length rs.length) rs' wr := by
 obtain ⟨h1, h2, h3⟩ := h
 refine ⟨(List.range rs.length).map f, ?_, OwL.build h1 (Nat.le_refl _) (.inr hsz) ⟨Nat.le_refl _, hl⟩ (fun i hi => ?_) (fun i j hi hj hij => ?_) fun i hi => ?_⟩
 ·rw [List.map_map]
  exact range_map_m (ms := rs.map Nst.m) (by simp) (fun i hi => by
   have hi' : i < rs.length := by simpa using hi
   rw [List.getElem_map]
   exact (h2 i hi' hi').1)
 ·have q := (h2 i hi hi).2
  exact ⟨q.mono (by omega), q.bs.lt⟩
 ·rcases Nat.lt_or_gt_of_ne hij with h | h
  ·exact h3 i j hi hj h
  ·rcases h3 j i hj hi h with h | h | h
   ·exact .inr (.inl h)
   ·exact .inl h
   ·exact .inr (.inr (Ne.symm h))
 ·rcases (h2 i hi hi).2.ge with h | h
  ·exact .inl h
  ·exact .inr (by omega)
set_option maxHeartbeats 4000000 in
theorem toIntSS_own (v : Value) (ms : List (List Int)) (w : World) (hl : sizIntSS ms ≤ 1048576) (hv : RdIntSS v ms w) :
  Calls Tryz.prog 104 #[v] w fun r w' => (∃ u rs, r = .returned u ∧ rs.map Nst.m = ms ∧ OwL w.heap.size w'.heap.size u rs w') ∧ Below w.heap.size w w' := by
 obtain ⟨rs, rfl, hr, hn⟩ := hv
 have hlen : rs.length ≤ 1048576 := by unfold sizIntSS at hl; rw [List.length_map] at hl; omega
 have HS : Hid (∀ k (hk : k < rs.length), rs[k].m.length ≤ 1048576) := fun k hk => by
  have h1 := sumL_mem (ms := rs.map Nst.m) (k := k) (by simpa using hk)
  rw [List.getElem_map] at h1
  unfold sizIntSS at hl
  omega
 have HV := dH fun W (hb : Below w.heap.size w W) => hr.below hb
 have HN : Hid (∀ W, Below w.heap.size w W → ∀ k (hk : k < rs.length), Ns W (.slice rs[k].a rs[k].m.length rs[k].c) rs[k].m) := fun W hb k hk => (hn _ (List.getElem_mem hk)).below hb
 obtain ⟨h0, a, cap, rfl, -, -⟩ := hr
 have hmk := makeL rs.length (by omega)
 clear hn hl
 go_enter Tryz.func104, Tryz.ntmps104
 go_wp2
 go_loopw [4] (fun x wr => ∃ (k : Nat) (f : Nat → Nst (List Int)), x = .int .i64 (k : Int) ∧ k ≤ rs.length ∧ Hid (CopL wr w.heap.size rs k f) ∧ w.heap.size < wr.heap.size ∧ Below w.heap.size w wr) (fun x _ => rs.length - (intOf x).toNat)
 case atStart => exact ⟨0, fun _ => zeroL, rfl, Nat.zero_le _, ⟨madeL w rs.length 22, fun i h h' => by omega, fun i j h => by omega⟩, by simp, (Below.refl _ _).alloc (Nat.le_refl _) _⟩
 case round =>
  obtain ⟨k, f, rfl, hk, hz, hsz, hb⟩ := hrel
  by_cases hlt : (k : Int) < (rs.length : Int)
  ·have hkl : k < rs.length := by omega
   obtain ⟨b, off, rfl, hc⟩ := (dU HV wr hb).ls hkl
   have c0 := hc k hkl
   have CE := dH fun W (hB : Below wr.heap.size wr W) => toIntS_any _ rs[k].m W (by have := dU HS k hkl; omega) (dU HN W (bT hb hB) k hkl)
   have hin : Hid (∀ (w2 : World) (qa : Option Addr) (qc : Nat), Below wr.heap.size wr w2 → OwnN w2 wr.heap.size (.slice qa rs[k].m.length qc) rs[k].m → CopL (w2.setCell ⟨w.heap.size, k, none⟩ (.slice qa rs[k].m.length qc)) w.heap.size rs (k + 1) (putG f k ⟨qa, qc, rs[k].m⟩)) := fun w2 qa qc hB ho => (dU hz).step hkl hB hsz ho
   have hrow : Hid (∀ W, Below wr.heap.size wr W → RowG 1 lsCl W w.heap.size 0 rs.length f) := fun W hB => (dU hz).1.below hB
   generalize rs[k] = y at *
   obtain ⟨ya, yc, yn⟩ := y
   simp only at *
   clear hc hz
   go_wp2_with fail
   refine (dU CE _ (Below.refl _ _)).mono ?_
   rintro r w2 ⟨⟨q, rfl, ho⟩, b2⟩
   obtain ⟨-, qa, qc, rfl, -, -⟩ := ho.bs
   have Z2 := dU hrow w2 b2
   obtain ⟨z0, f0⟩ := Z2 k hkl 0 _ rfl
   have Z3 := dH (dU hin w2 qa qc b2 ho)
   simp only [Nat.zero_add, Nat.add_zero, Nat.mul_one] at z0 f0
   have hb2 := bT hb b2
   have hb3 := dH (hb2.setCell (p := ⟨w.heap.size, k, none⟩) (Nat.le_refl _) (.slice qa yn.length qc))
   have hs2 : w.heap.size < (w2.setCell ⟨w.heap.size, k, none⟩ (.slice qa yn.length qc)).heap.size := by simpa using Nat.lt_of_lt_of_le hsz b2.size
   clear CE b2 c0 hb hrow Z2 hb2 hin ho
   go_wp2
   go_roundw
   case rel => exact ⟨k + 1, _, by go_num, by omega, Z3, hs2, dU hb3⟩
   case measure => simp [intOf]; omega
  ·have e1 : k = rs.length := by omega
   subst e1
   have O := dH ((dU hz).own hsz (by omega))
   clear hz HV HN HS
   go_wp2
   go_ret
   obtain ⟨rs', q1, q2⟩ := dU O
   first | exact ⟨⟨_, rs', rfl, q1, q2⟩, hb⟩ | exact ⟨⟨_, rfl, rs', q1, q2⟩, hb⟩
theorem OwL.off {lo hi b : Nat} {v : Value} {rs : List (Nst (List Int))} {w : World} (h : OwL lo hi v rs w) (hb : b < lo) : Off b v rs := by
 refine ⟨?_, fun p hp => ?_⟩
 ·rcases h.1.geG with h | h
  ·exact .inl h
  ·exact .inr (by omega)
 ·rcases (h.2.2.1 p hp).1.ge with h | h
  ·exact .inl h
  ·exact .inr (by omega)
theorem OwMend.made {B b1 b2 : Nat} {V : World} {m : Mn} {sv ev wv : Value} {rs : List (Nst (List Int))} (hr : rs.map Nst.m = m.wrote) (P : OwnN V B sv m.sealed) (p1 : m.sealed = [] ∨ bO sv < b1) (Q : OwnRw 4 Ent.cl V b1 ev m.seen) (q1 : m.seen = [] ∨ bO ev < b2) (R : OwL b2 V.heap.size wv rs V) (h1 : B ≤ b1) (h2 : b1 ≤ b2) : OwMend B V.heap.size (.agg #[.int .i64 m.bye, .int .i64 m.epoch, sv, ev, .bool m.planned, wv]) m V := by
 refine ⟨sv, ev, wv, rs, rfl, hr, ⟨P, P.bs.lt⟩, ⟨Q.mono h1, Q.lt⟩, R.wide (by omega) (Nat.le_refl _), ?_, ?_, ?_⟩
 ·rcases p1 with h | h
  ·exact .inl h
  ·rcases Q.ge with h' | h'
   ·exact .inr (.inl h')
   ·exact .inr (.inr (by omega))
 ·rcases p1 with h | h
  ·exact .inl h
  ·exact .inr (R.off (by omega))
 ·rcases q1 with h | h
  ·exact .inl h
  ·exact .inr (R.off h)
set_option maxHeartbeats 4000000 in
theorem toMend_ (v : Value) (m : Mn) (w : World) (hl : sizMend m ≤ 1048576) (h : RdMend v m w) :
  Calls Tryz.prog 69 #[v] w fun e w' => ∃ u, e = .returned u ∧ Sits (OwMend w.heap.size w'.heap.size u m) w.heap.size w'.heap.size w' ∧ Below w.heap.size w w' := by
 have ba : ∀ (w : World) o, Below w.heap.size w (w.alloc o) := fun w o => (Below.refl _ _).alloc (Nat.le_refl _) o
 obtain ⟨sv, ev, wv, rfl, r1, r2, r3⟩ := h
 have hl1 : m.sealed.length ≤ 1048576 := by unfold sizMend at hl; omega
 have hl2 : m.seen.length ≤ 1048576 := by unfold sizMend sizEntryS at hl; omega
 have hl3 : sizIntSS m.wrote ≤ 1048576 := by unfold sizMend at hl; omega
 have C1 := dH fun W (hb : Below w.heap.size w W) => toIntS_any sv m.sealed W (by omega) (r1.below hb)
 have C2 := dH fun W (hb : Below w.heap.size w W) => toEntryS_own ev m.seen W hl2 (r2.below hb)
 have C3 := dH fun W (hb : Below w.heap.size w W) => toIntSS_own wv m.wrote W hl3 (RdK.below r3 hb)
 obtain ⟨-, sa, sc, rfl, -, -⟩ := r1
 obtain ⟨ea, ec, rfl, -⟩ := formEntryS r2
 obtain ⟨wa, wc, rfl, -⟩ := formK r3
 have EX : Hid (∀ (W : World) (b1 b2 : Nat) (u1 u2 u3 : Value) (rs : List (Nst (List Int))), rs.map Nst.m = m.wrote → OwnN W w.heap.size u1 m.sealed → (m.sealed = [] ∨ bO u1 < b1) → OwnRw 4 Ent.cl W b1 u2 m.seen → (m.seen = [] ∨ bO u2 < b2) → OwL b2 W.heap.size u3 rs W → w.heap.size ≤ b1 → b1 ≤ b2 → Sits (OwMend w.heap.size W.heap.size (.agg #[.int .i64 m.bye, .int .i64 m.epoch, u1, u2, .bool m.planned, u3]) m) w.heap.size W.heap.size W) := fun W b1 b2 u1 u2 u3 rs hr P p1 Q q1 R h1 h2 => OwMend.sits (OwMend.made hr P p1 Q q1 R h1 h2) (Nat.le_refl _)
 generalize m.bye = f0 at *
 generalize m.epoch = f1 at *
 generalize m.planned = f4 at *
 have X0 := (Bx.new w [.int .i64 f0, .int .i64 f1, .slice sa m.sealed.length sc, .slice ea m.seen.length ec, .bool f4, .slice wa m.wrote.length wc] 101).below (bT (ba _ (.cells #[.int .i64 0, .int .i64 0, .slice none 0 0, .slice none 0 0, .bool false, .slice none 0 0] 119)) (ba _ (.cells #[.int .i64 f0, .int .i64 f1, .slice none 0 0, .slice none 0 0, .bool false, .slice none 0 0] 119)))
 have Y0 := (BxZ.new (B := w.heap.size) (w.alloc (.cells #[.int .i64 f0, .int .i64 f1, .slice sa m.sealed.length sc, .slice ea m.seen.length ec, .bool f4, .slice wa m.wrote.length wc] 101)) [.int .i64 0, .int .i64 0, .slice none 0 0, .slice none 0 0, .bool false, .slice none 0 0] 119 (by simp)).below (ba _ (.cells #[.int .i64 f0, .int .i64 f1, .slice none 0 0, .slice none 0 0, .bool false, .slice none 0 0] 119))
 have Z0 := BxZ.new (B := w.heap.size) ((w.alloc (.cells #[.int .i64 f0, .int .i64 f1, .slice sa m.sealed.length sc, .slice ea m.seen.length ec, .bool f4, .slice wa m.wrote.length wc] 101)).alloc (.cells #[.int .i64 0, .int .i64 0, .slice none 0 0, .slice none 0 0, .bool false, .slice none 0 0] 119)) [.int .i64 f0, .int .i64 f1, .slice none 0 0, .slice none 0 0, .bool false, .slice none 0 0] 119 (by simp <;> omega)
 have B0 := bT (bT (ba w (.cells #[.int .i64 f0, .int .i64 f1, .slice sa m.sealed.length sc, .slice ea m.seen.length ec, .bool f4, .slice wa m.wrote.length wc] 101)) (ba _ (.cells #[.int .i64 0, .int .i64 0, .slice none 0 0, .slice none 0 0, .bool false, .slice none 0 0] 119))) (ba _ (.cells #[.int .i64 f0, .int .i64 f1, .slice none 0 0, .slice none 0 0, .bool false, .slice none 0 0] 119))
 have e1 : (w.alloc (.cells #[.int .i64 f0, .int .i64 f1, .slice sa m.sealed.length sc, .slice ea m.seen.length ec, .bool f4, .slice wa m.wrote.length wc] 101)).heap.size = w.heap.size + 1 := by simp
 have e2 : ((w.alloc (.cells #[.int .i64 f0, .int .i64 f1, .slice sa m.sealed.length sc, .slice ea m.seen.length ec, .bool f4, .slice wa m.wrote.length wc] 101)).alloc (.cells #[.int .i64 0, .int .i64 0, .slice none 0 0, .slice none 0 0, .bool false, .slice none 0 0] 119)).heap.size = w.heap.size + 1 + 1 := by simp
 rw [e1] at Y0
 rw [e2] at Z0
 clear e1 e2 r2 r3 hl
 go_enter Tryz.func69, Tryz.ntmps69
 go_wp2_with fail
 generalize (((w.alloc (.cells #[.int .i64 f0, .int .i64 f1, .slice sa m.sealed.length sc, .slice ea m.seen.length ec, .bool f4, .slice wa m.wrote.length wc] 101)).alloc (.cells #[.int .i64 0, .int .i64 0, .slice none 0 0, .slice none 0 0, .bool false, .slice none 0 0] 119)).alloc (.cells #[.int .i64 f0, .int .i64 f1, .slice none 0 0, .slice none 0 0, .bool false, .slice none 0 0] 119)) = w0 at *
 have hlt := Z0.lt
 refine (dU C1 _ B0).mono ?_
 rintro r w1 ⟨⟨u1, rfl, O1⟩, b1⟩
 have hs1 := b1.size
 obtain ⟨-, a1, c1, rfl, -, -⟩ := O1.bs
 have B1 := bT B0 b1
 have X1 := X0.below b1
 have Y1 := Y0.below b1
 have Z1 := Z0.below b1
 have k3 := X1 3 _ rfl
 obtain ⟨z2, g2⟩ := Z1.2 2 _ rfl
 have X2 := dH (X1.farB (b' := w.heap.size + 1 + 1) (o := 2) (by omega) (.slice a1 m.sealed.length c1))
 have k3' := (dU X2) 3 _ rfl
 have Y2 := dH (Y1.far (b' := w.heap.size + 1 + 1) (o := 2) (by omega) (.slice a1 m.sealed.length c1))
 have Z2 := dH (Z1.put 2 (.slice a1 m.sealed.length c1))
 have O2 := dH (O1.far (b := w.heap.size + 1 + 1) (o := 2) (by omega) (.slice a1 m.sealed.length c1))
 have L2 := (dU O2).bs.lt
 have B2 := B1.setCell (p := ⟨w.heap.size + 1 + 1, 2, none⟩) (by simp only; omega) (.slice a1 m.sealed.length c1)
 have s2 : w1.heap.size ≤ (w1.setCell ⟨w.heap.size + 1 + 1, 2, none⟩ (.slice a1 m.sealed.length c1)).heap.size := by simp
 clear X0 Y0 Z0 B0 C1 b1 O1 X1 Y1 Z1 B1
 go_wp2_with fail
 generalize w1.setCell ⟨w.heap.size + 1 + 1, 2, none⟩ (.slice a1 m.sealed.length c1) = w2 at *
 clear z2 g2 k3
 refine (dU C2 _ B2).mono ?_
 rintro r w3 ⟨⟨u3, rfl, O3⟩, b3⟩
 obtain ⟨a3, c3, rfl, -⟩ := formEntryS (OwnRw.rw O3)
 have hs3 := b3.size
 have B3 := bT B2 b3
 have X3 := (dU X2).below b3
 have Y3 := (dU Y2).below b3
 have Z3 := (dU Z2).below b3
 have P3 := (dU O2).below b3
 have k4 := X3 4 _ rfl
 obtain ⟨z3, g3⟩ := Z3.2 3 _ rfl
 obtain ⟨z4, g4⟩ := Z3.2 4 _ rfl
 have X4 := dH ((X3.farB (b' := w.heap.size + 1 + 1) (o := 3) (by omega) (.slice a3 m.seen.length c3)).farB (b' := w.heap.size + 1 + 1) (o := 4) (by omega) (.bool f4))
 have k5 := (dU X4) 5 _ rfl
 have k5a := X3 5 _ rfl
 have Y4 := dH ((Y3.far (b' := w.heap.size + 1 + 1) (o := 3) (by omega) (.slice a3 m.seen.length c3)).far (b' := w.heap.size + 1 + 1) (o := 4) (by omega) (.bool f4))
 have Z4 := dH ((Z3.put 3 (.slice a3 m.seen.length c3)).put 4 (.bool f4))
 have P4 := dH ((P3.far (b := w.heap.size + 1 + 1) (o := 3) (by omega) (.slice a3 m.seen.length c3)).far (b := w.heap.size + 1 + 1) (o := 4) (by omega) (.bool f4))
 have Q4 := dH ((O3.farE (b := w.heap.size + 1 + 1) (o := 3) (by omega) (.slice a3 m.seen.length c3)).farE (b := w.heap.size + 1 + 1) (o := 4) (by omega) (.bool f4))
 have L4 := (dU Q4).lt
 have B4 := (B3.setCell (p := ⟨w.heap.size + 1 + 1, 3, none⟩) (by simp only; omega) (.slice a3 m.seen.length c3)).setCell (p := ⟨w.heap.size + 1 + 1, 4, none⟩) (by simp only; omega) (.bool f4)
 have s4 : w3.heap.size ≤ ((w3.setCell ⟨w.heap.size + 1 + 1, 3, none⟩ (.slice a3 m.seen.length c3)).setCell ⟨w.heap.size + 1 + 1, 4, none⟩ (.bool f4)).heap.size := by simp
 clear X2 Y2 Z2 O2 B2 C2 b3 O3 X3 Y3 Z3 P3 B3 k3'
 go_wp2_with fail
 generalize (w3.setCell ⟨w.heap.size + 1 + 1, 3, none⟩ (.slice a3 m.seen.length c3)).setCell ⟨w.heap.size + 1 + 1, 4, none⟩ (.bool f4) = w4 at *
 clear z3 g3 z4 g4 k4 k5a
 refine (dU C3 _ B4).mono ?_
 rintro r w5 ⟨⟨u5, rs, rfl, hrs, O5⟩, b5⟩
 obtain ⟨a5, c5, e5, -⟩ := formK O5.rd
 have hrl : (rs.map Nst.m).length = m.wrote.length := by rw [hrs]
 rw [hrl] at e5
 subst e5
 have hs5 := b5.size
 have B5 := bT B4 b5
 have Y5 := (dU Y4).below b5
 have Z5 := (dU Z4).below b5
 have P5 := (dU P4).below b5
 have Q5 := (dU Q4).below b5
 obtain ⟨z0, g0⟩ := Z5.2 0 _ rfl
 obtain ⟨z1, g1⟩ := Z5.2 1 _ rfl
 obtain ⟨z2, g2⟩ := Z5.2 2 _ rfl
 obtain ⟨z3, g3⟩ := Z5.2 3 _ rfl
 obtain ⟨z4, g4⟩ := Z5.2 4 _ rfl
 obtain ⟨z5, g5⟩ := Z5.2 5 _ rfl
 obtain ⟨y0, p0⟩ := Y5.2 0 _ rfl
 obtain ⟨y1, p1⟩ := Y5.2 1 _ rfl
 obtain ⟨y2, p2⟩ := Y5.2 2 _ rfl
 obtain ⟨y3, p3⟩ := Y5.2 3 _ rfl
 obtain ⟨y4, p4⟩ := Y5.2 4 _ rfl
 obtain ⟨y5, p5⟩ := Y5.2 5 _ rfl
 have YY := dH (((((((Y5.far (b' := w.heap.size + 1 + 1) (o := 5) (by omega) (.slice a5 m.wrote.length c5)).put 0 (.int .i64 f0)).put 1 (.int .i64 f1)).put 2 (.slice a1 m.sealed.length c1)).put 3 (.slice a3 m.seen.length c3)).put 4 (.bool f4)).put 5 (.slice a5 m.wrote.length c5))
 have PP := dH (((((((P5.far (b := w.heap.size + 1 + 1) (o := 5) (by omega) (.slice a5 m.wrote.length c5)).far (b := w.heap.size + 1) (o := 0) (by omega) (.int .i64 f0)).far (b := w.heap.size + 1) (o := 1) (by omega) (.int .i64 f1)).far (b := w.heap.size + 1) (o := 2) (by omega) (.slice a1 m.sealed.length c1)).far (b := w.heap.size + 1) (o := 3) (by omega) (.slice a3 m.seen.length c3)).far (b := w.heap.size + 1) (o := 4) (by omega) (.bool f4)).far (b := w.heap.size + 1) (o := 5) (by omega) (.slice a5 m.wrote.length c5))
 have QQ := dH (((((((Q5.farE (b := w.heap.size + 1 + 1) (o := 5) (by omega) (.slice a5 m.wrote.length c5)).farE (b := w.heap.size + 1) (o := 0) (by omega) (.int .i64 f0)).farE (b := w.heap.size + 1) (o := 1) (by omega) (.int .i64 f1)).farE (b := w.heap.size + 1) (o := 2) (by omega) (.slice a1 m.sealed.length c1)).farE (b := w.heap.size + 1) (o := 3) (by omega) (.slice a3 m.seen.length c3)).farE (b := w.heap.size + 1) (o := 4) (by omega) (.bool f4)).farE (b := w.heap.size + 1) (o := 5) (by omega) (.slice a5 m.wrote.length c5))
 have RR := dH (((((((O5.far (b := w.heap.size + 1 + 1) (o := 5) (by omega) (.slice a5 m.wrote.length c5)).far (b := w.heap.size + 1) (o := 0) (by omega) (.int .i64 f0)).far (b := w.heap.size + 1) (o := 1) (by omega) (.int .i64 f1)).far (b := w.heap.size + 1) (o := 2) (by omega) (.slice a1 m.sealed.length c1)).far (b := w.heap.size + 1) (o := 3) (by omega) (.slice a3 m.seen.length c3)).far (b := w.heap.size + 1) (o := 4) (by omega) (.bool f4)).far (b := w.heap.size + 1) (o := 5) (by omega) (.slice a5 m.wrote.length c5))
 have BB := dH (((((((B5.setCell (p := ⟨w.heap.size + 1 + 1, 5, none⟩) (by simp only; omega) (.slice a5 m.wrote.length c5)).setCell (p := ⟨w.heap.size + 1, 0, none⟩) (by simp only; omega) (.int .i64 f0)).setCell (p := ⟨w.heap.size + 1, 1, none⟩) (by simp only; omega) (.int .i64 f1)).setCell (p := ⟨w.heap.size + 1, 2, none⟩) (by simp only; omega) (.slice a1 m.sealed.length c1)).setCell (p := ⟨w.heap.size + 1, 3, none⟩) (by simp only; omega) (.slice a3 m.seen.length c3)).setCell (p := ⟨w.heap.size + 1, 4, none⟩) (by simp only; omega) (.bool f4)).setCell (p := ⟨w.heap.size + 1, 5, none⟩) (by simp only; omega) (.slice a5 m.wrote.length c5))
 have hV : w5.heap.size = (((((((w5.setCell ⟨w.heap.size + 1 + 1, 5, none⟩ (.slice a5 m.wrote.length c5)).setCell ⟨w.heap.size + 1, 0, none⟩ (.int .i64 f0)).setCell ⟨w.heap.size + 1, 1, none⟩ (.int .i64 f1)).setCell ⟨w.heap.size + 1, 2, none⟩ (.slice a1 m.sealed.length c1)).setCell ⟨w.heap.size + 1, 3, none⟩ (.slice a3 m.seen.length c3)).setCell ⟨w.heap.size + 1, 4, none⟩ (.bool f4)).setCell ⟨w.heap.size + 1, 5, none⟩ (.slice a5 m.wrote.length c5)).heap.size := by simp
 have HRS := dH hrs
 have HRL := dH hrl
 clear X4 Y4 Z4 P4 Q4 B4 C3 b5 O5 B5 Y5 Z5 P5 Q5 k5 hrs hrl
 go_wp2_with fail
 generalize (((((((w5.setCell ⟨w.heap.size + 1 + 1, 5, none⟩ (.slice a5 m.wrote.length c5)).setCell ⟨w.heap.size + 1, 0, none⟩ (.int .i64 f0)).setCell ⟨w.heap.size + 1, 1, none⟩ (.int .i64 f1)).setCell ⟨w.heap.size + 1, 2, none⟩ (.slice a1 m.sealed.length c1)).setCell ⟨w.heap.size + 1, 3, none⟩ (.slice a3 m.seen.length c3)).setCell ⟨w.heap.size + 1, 4, none⟩ (.bool f4)).setCell ⟨w.heap.size + 1, 5, none⟩ (.slice a5 m.wrote.length c5)) = V at *
 have q0 := ((dU YY).2 0 _ rfl).1
 have q1 := ((dU YY).2 1 _ rfl).1
 have q2 := ((dU YY).2 2 _ rfl).1
 have q3 := ((dU YY).2 3 _ rfl).1
 have q4 := ((dU YY).2 4 _ rfl).1
 have q5 := ((dU YY).2 5 _ rfl).1
 clear z0 z1 z2 z3 z4 z5 g0 g1 g2 g3 g4 g5 y0 y1 y2 y3 y4 y5 p0 p1 p2 p3 p4 p5
 have RR' := dU RR
 rw [hV] at RR'
 refine bodyPost_ret (v := .agg #[.int .i64 f0, .int .i64 f1, .slice a1 m.sealed.length c1, .slice a3 m.seen.length c3, .bool f4, .slice a5 m.wrote.length c5]) (by simp [results, Tryz.results69, go_sem, q0, q1, q2, q3, q4, q5]) rfl ⟨_, rfl, dU EX V w2.heap.size w4.heap.size _ _ _ rs (dU HRS) ((dU PP).mono (by omega)) L2 (dU QQ) L4 RR' (by omega) (by omega), dU BB⟩
def RdMendS (v : Value) (ms : List Mn) (W : World) : Prop := RdD 6 RdMend v ms W
def OwMendS (lo hi : Nat) (v : Value) (ms : List Mn) (W : World) : Prop := OwD 6 OwMend lo hi v ms W
def sizMendS (ms : List Mn) : Nat := sizD sizMend ms
theorem RdMendS.below {v : Value} {ms : List Mn} {W W' : World} (h : RdMendS v ms W) (b : Below W.heap.size W W') : RdMendS v ms W' := RdD.below (Rd := RdMend) (fun h b => RdMend.below h b) h b
theorem OwMendS.rd {lo hi : Nat} {v : Value} {ms : List Mn} {W : World} (h : OwMendS lo hi v ms W) : RdMendS v ms W := OwD.rd (Rd := RdMend) (Ow := OwMend) (fun h => OwMend.rd h) h
theorem sitsOfMend : SitsOf OwMend := fun h hf => OwMend.sits h hf
theorem OwMend.wideD {lo hi lo' : Nat} {v : Value} {m : Mn} {w : World} (h : OwMend lo hi v m w) (h1 : lo' ≤ lo) : OwMend lo' hi v m w := by
 obtain ⟨sv, ev, wv, rs, e, e2, a, b, c, d⟩ := h
 exact ⟨sv, ev, wv, rs, e, e2, a.wide h1 (Nat.le_refl _), b.wide h1 (Nat.le_refl _), c.wide h1 (Nat.le_refl _), d⟩
set_option maxHeartbeats 2000000 in
theorem szMendS_ (v : Value) (ms : List Mn) (left : Int) (l0 : 0 ≤ left) (l1 : left ≤ 1048576) (hf : ∀ m ∈ ms, txtE m.seen) (w : World) (hv : RdMendS v ms w) :
  Calls Tryz.prog 29 #[v, .int .i64 left] w fun r w' => r = .returned (.int .i64 (lft left (sizMendS ms))) ∧ Below w.heap.size w w' := by
 obtain ⟨rs, rfl, hr, hn⟩ := hv
 have HV := dH fun W (hb : Below w.heap.size w W) => hr.below hb
 have HN := dH fun W (hb : Below w.heap.size w W) k (hk : k < rs.length) => (hn _ (List.getElem_mem hk)).below hb
 have HT : Hid (∀ k (hk : k < rs.length), txtE rs[k].m.seen) := fun k hk => hf _ (List.mem_map.2 ⟨_, List.getElem_mem hk, rfl⟩)
 obtain ⟨h0, a, cap, rfl, -, -⟩ := hr
 have e0 : sizMendS (rs.map Pd.m) = rs.length + sumPd sizMend (rs.map Pd.m) := by unfold sizMendS sizD; rw [List.length_map]
 rw [e0]
 clear hn e0 hf
 by_cases hl : left < (rs.length : Int)
 ·have e1 : lft left (rs.length + sumPd sizMend (rs.map Pd.m)) = -1 := lft_no (by omega)
  rw [e1]
  have hd : left - (rs.length : Int) < 0 := by omega
  clear HV HN e1 HT
  go_enter Tryz.func29, Tryz.ntmps29
  go_wp2
  go_ret
  exact ⟨rfl, Below.refl _ _⟩
 ·have hd : ¬ left - (rs.length : Int) < 0 := by omega
  have LN : Hid (left < ((rs.length + sumPd sizMend (rs.map Pd.m) : Nat) : Int) → lft left (rs.length + sumPd sizMend (rs.map Pd.m)) = -1) := lft_no
  have LY : Hid (¬ left < ((rs.length + sumPd sizMend (rs.map Pd.m) : Nat) : Int) → lft left (rs.length + sumPd sizMend (rs.map Pd.m)) = left - ((rs.length + sumPd sizMend (rs.map Pd.m) : Nat) : Int)) := lft_yes
  generalize lft left (rs.length + sumPd sizMend (rs.map Pd.m)) = M at *
  go_enter Tryz.func29, Tryz.ntmps29
  go_wp2
  go_loopw [5, 1] (fun x y wr => ∃ (k : Nat) (q : Int), x = .int .i64 (k : Int) ∧ y = .int .i64 q ∧ k ≤ rs.length ∧ 0 ≤ q ∧ q ≤ 1048576 ∧ Hid (q = left - (rs.length : Int) - (sumPd sizMend ((rs.map Pd.m).take k) : Int)) ∧ Below w.heap.size w wr) (fun x _ _ => rs.length - (intOf x).toNat)
  case atStart => exact ⟨0, _, rfl, rfl, Nat.zero_le _, by omega, by omega, by simp [Hid, sumPd], Below.refl _ _⟩
  case round =>
   obtain ⟨k, q, rfl, rfl, hk, q0, q1, hq, hb⟩ := hrel
   by_cases hlt : (k : Int) < (rs.length : Int)
   ·have hkl : k < rs.length := by omega
    obtain ⟨b, off, rfl, hc⟩ := (dU HV wr hb).pd hkl
    have hs := sumPd_take sizMend (rs.map Pd.m) k (by simpa using hkl)
    have hs2 := sumPd_le sizMend (rs.map Pd.m) (k + 1)
    rw [List.getElem_map] at hs
    have CE := dH fun W (hB : Below wr.heap.size wr W) => szMend_ rs[k].val rs[k].m q q0 q1 (dU HT k hkl) W (dU HN W (bT hb hB) k hkl)
    have hF := formMend (dU HN wr hb k hkl)
    have hck := hc k hkl
    have hq' := dU hq
    generalize rs[k] = y at *
    obtain ⟨yc, yl, m⟩ := y
    obtain ⟨xsa, xsc, xea, xec, xwa, xwc, hF, -, -, -⟩ := hF
    have hF := Pd.eq hF
    simp only at hF
    subst hF
    unfold Pd.val at CE
    simp only at *
    have c0 := hck 0 _ rfl
    have c1 := hck 1 _ rfl
    have c2 := hck 2 _ rfl
    have c3 := hck 3 _ rfl
    have c4 := hck 4 _ rfl
    have c5 := hck 5 _ rfl
    simp only [Nat.add_zero] at c0 c1 c2 c3 c4 c5
    clear hck
    by_cases hn : q < (sizMend m : Int)
    ·rw [lft_no hn] at CE
     have e1 := dU LN (by omega)
     subst e1
     clear hc HV HN hq' hq hs hs2 hn LN LY HT
     go_wp2_with fail
     refine (dU CE _ (Below.refl _ _)).mono ?_
     rintro r w2 ⟨rfl, b2⟩
     have hb2 := bT hb b2
     clear CE b2 c0 c1 c2 c3 c4 c5 hb
     go_wp2
     go_ret
     exact ⟨rfl, hb2⟩
    ·rw [lft_yes hn] at CE
     have e1 : Hid (q - (sizMend m : Int) = left - (rs.length : Int) - (sumPd sizMend ((rs.map Pd.m).take (k + 1)) : Int)) := by rw [Hid, hs]; omega
     have q0' : 0 ≤ q - (sizMend m : Int) := by omega
     have q1' : q - (sizMend m : Int) ≤ 1048576 := by omega
     generalize q - (sizMend m : Int) = q' at *
     have hd' : ¬ q' < 0 := by omega
     clear hc hq' hq hs hs2 hn HT
     go_wp2_with fail
     refine (dU CE _ (Below.refl _ _)).mono ?_
     rintro r w2 ⟨rfl, b2⟩
     have hb2 := bT hb b2
     clear CE b2 c0 c1 c2 c3 c4 c5 hb
     go_wp2
     go_roundw
     case rel => exact ⟨k + 1, q', by go_num, rfl, by omega, q0', q1', e1, hb2⟩
     case measure => simp [intOf]; omega
   ·have e1 : (rs.map Pd.m).take k = rs.map Pd.m := List.take_of_length_le (by rw [List.length_map]; omega)
    have hq' := dU hq
    rw [e1] at hq'
    have e2 := dU LY (by omega)
    have e3 : Hid (q = M) := by rw [Hid, e2, hq']; omega
    clear hq hq' e1 e2 LN LY HV HN HT
    go_wp2
    go_ret
    exact ⟨by rw [← dU e3]; rfl, hb⟩
set_option maxHeartbeats 4000000 in
theorem eqMendS_ (u v : Value) (ms : List Mn) (w : World) (hu : RdMendS u ms w) (hv : RdMendS v ms w) :
  Calls Tryz.prog 48 #[u, v] w fun e w' => e = .returned (.bool true) ∧ Below w.heap.size w w' := by
 obtain ⟨rs, e1, hr, hn⟩ := hu
 obtain ⟨ss, e2, hs, hp⟩ := hv
 have el : rs.length = ss.length := by rw [← List.length_map (f := Pd.m), e1, ← e2, List.length_map]
 have em : Hid (∀ k (h : k < rs.length) (h' : k < ss.length), rs[k].m = ss[k].m) := fun k h h' => by
  have q1 : (rs.map Pd.m)[k]? = (ss.map Pd.m)[k]? := by rw [e1, e2]
  rw [List.getElem?_map, List.getElem?_map, List.getElem?_eq_getElem h, List.getElem?_eq_getElem h'] at q1
  simpa using q1
 have HU := dH fun W (hb : Below w.heap.size w W) => hr.below hb
 have HV := dH fun W (hb : Below w.heap.size w W) => hs.below hb
 have HN := dH fun W (hb : Below w.heap.size w W) k (hk : k < rs.length) => (hn _ (List.getElem_mem hk)).below hb
 have HP := dH fun W (hb : Below w.heap.size w W) k (hk : k < ss.length) => (hp _ (List.getElem_mem hk)).below hb
 obtain ⟨h0, a, cap, rfl, -, -⟩ := hr
 obtain ⟨h0', a', cap', rfl, -, -⟩ := hs
 rw [← el]
 have EL := dH el
 clear hn hp e1 e2 el h0'
 go_enter Tryz.func48, Tryz.ntmps48
 go_wp2
 go_loopw [5] (fun i wr => ∃ k : Nat, i = .int .i64 (k : Int) ∧ k ≤ rs.length ∧ Below w.heap.size w wr) (fun i _ => rs.length - (intOf i).toNat)
 case atStart => exact ⟨0, rfl, Nat.zero_le _, Below.refl _ _⟩
 case round =>
  obtain ⟨k, rfl, hk, hb⟩ := hrel
  by_cases hlt : (k : Int) < (rs.length : Int)
  ·have hkl : k < rs.length := by omega
   have hkl' : k < ss.length := by rw [← dU EL]; exact hkl
   obtain ⟨b, off, rfl, hc⟩ := (dU HU wr hb).pd hkl
   obtain ⟨b', off', rfl, hc'⟩ := (dU HV wr hb).pd hkl'
   have hck := hc k hkl
   have hdk := hc' k hkl'
   have hF := formMend (dU HN wr hb k hkl)
   have hG := formMend (dU HP wr hb k hkl')
   have CE := dH fun W (hB : Below wr.heap.size wr W) => eqMend_ rs[k].val ss[k].val rs[k].m W (dU HN W (bT hb hB) k hkl) (by rw [dU em k hkl hkl']; exact dU HP W (bT hb hB) k hkl')
   generalize rs[k] = y at *
   generalize ss[k] = y' at *
   obtain ⟨yc, yl, m⟩ := y
   obtain ⟨yc', yl', m'⟩ := y'
   obtain ⟨xsa, xsc, xea, xec, xwa, xwc, hF, -, -, -⟩ := hF
   obtain ⟨zsa, zsc, zea, zec, zwa, zwc, hG, -, -, -⟩ := hG
   have hF := Pd.eq hF
   have hG := Pd.eq hG
   simp only at hF hG
   subst hF hG
   unfold Pd.val at CE
   simp only at *
   have c0 := hck 0 _ rfl
   have e0 := hdk 0 _ rfl
   have c1 := hck 1 _ rfl
   have e1 := hdk 1 _ rfl
   have c2 := hck 2 _ rfl
   have e2 := hdk 2 _ rfl
   have c3 := hck 3 _ rfl
   have e3 := hdk 3 _ rfl
   have c4 := hck 4 _ rfl
   have e4 := hdk 4 _ rfl
   have c5 := hck 5 _ rfl
   have e5 := hdk 5 _ rfl
   simp only [Nat.add_zero] at c0 c1 c2 c3 c4 c5 e0 e1 e2 e3 e4 e5
   clear hck hdk hc hc' HU HV HN HP em
   generalize m.bye = n0 at *
   generalize m.epoch = n1 at *
   generalize m.sealed.length = n2 at *
   generalize m.seen.length = n3 at *
   generalize m.planned = n4 at *
   generalize m.wrote.length = n5 at *
   generalize m'.bye = n6 at *
   generalize m'.epoch = n7 at *
   generalize m'.sealed.length = n8 at *
   generalize m'.seen.length = n9 at *
   generalize m'.planned = n10 at *
   generalize m'.wrote.length = n11 at *
   have KB : Hid (∀ W, Below wr.heap.size wr W → (W.cell? ⟨b, off + k * 6, none⟩ = some (.int .i64 n0) ∧ W.cell? ⟨b, off + k * 6 + 1, none⟩ = some (.int .i64 n1) ∧ W.cell? ⟨b, off + k * 6 + 2, none⟩ = some (.slice xsa n2 xsc) ∧ W.cell? ⟨b, off + k * 6 + 3, none⟩ = some (.slice xea n3 xec) ∧ W.cell? ⟨b, off + k * 6 + 4, none⟩ = some (.bool n4) ∧ W.cell? ⟨b, off + k * 6 + 5, none⟩ = some (.slice xwa n5 xwc)) ∧ W.cell? ⟨b', off' + k * 6, none⟩ = some (.int .i64 n6) ∧ W.cell? ⟨b', off' + k * 6 + 1, none⟩ = some (.int .i64 n7) ∧ W.cell? ⟨b', off' + k * 6 + 2, none⟩ = some (.slice zsa n8 zsc) ∧ W.cell? ⟨b', off' + k * 6 + 3, none⟩ = some (.slice zea n9 zec) ∧ W.cell? ⟨b', off' + k * 6 + 4, none⟩ = some (.bool n10) ∧ W.cell? ⟨b', off' + k * 6 + 5, none⟩ = some (.slice zwa n11 zwc)) := fun W hB => by
    have cb : ∀ {bb oo : Nat} {vv : Value}, wr.cell? ⟨bb, oo, none⟩ = some vv → W.cell? ⟨bb, oo, none⟩ = some vv := fun {bb oo vv} h => (hB.cell (p := ⟨bb, oo, none⟩) (dCell_lt h)).trans h
    exact ⟨⟨cb c0, cb c1, cb c2, cb c3, cb c4, cb c5⟩, cb e0, cb e1, cb e2, cb e3, cb e4, cb e5⟩
   have hbr : Below wr.heap.size wr wr.drew := (Below.refl _ _).drew
   go_wp2_with fail
   go_region_held3 (fun W => (W.cell? ⟨b, off + k * 6, none⟩ = some (.int .i64 n0) ∧ W.cell? ⟨b, off + k * 6 + 1, none⟩ = some (.int .i64 n1) ∧ W.cell? ⟨b, off + k * 6 + 2, none⟩ = some (.slice xsa n2 xsc) ∧ W.cell? ⟨b, off + k * 6 + 3, none⟩ = some (.slice xea n3 xec) ∧ W.cell? ⟨b, off + k * 6 + 4, none⟩ = some (.bool n4) ∧ W.cell? ⟨b, off + k * 6 + 5, none⟩ = some (.slice xwa n5 xwc)) ∧ W.cell? ⟨b', off' + k * 6, none⟩ = some (.int .i64 n6) ∧ W.cell? ⟨b', off' + k * 6 + 1, none⟩ = some (.int .i64 n7) ∧ W.cell? ⟨b', off' + k * 6 + 2, none⟩ = some (.slice zsa n8 zsc) ∧ W.cell? ⟨b', off' + k * 6 + 3, none⟩ = some (.slice zea n9 zec) ∧ W.cell? ⟨b', off' + k * 6 + 4, none⟩ = some (.bool n10) ∧ W.cell? ⟨b', off' + k * 6 + 5, none⟩ = some (.slice zwa n11 zwc)) (first | exact dU KB _ hb5 | go_keep)
    (first
     | (go_at_call 79; refine (dU CE _ hbr).mono ?_; rintro r w5 ⟨rfl, b5⟩; have hb5 := bT hbr b5))
   all_goals
    go_wp2
    go_roundw
    case rel => exact ⟨k + 1, by go_num, by omega, bT hb hb5⟩
    case measure => simp [intOf]; omega
  ·clear HU HV HN HP em
   go_wp2
   go_ret
   exact ⟨rfl, hb⟩
theorem makeMendS (n : Nat) (h : n ≤ 1073741824) (w : World) : (Instr.makeSlice 43 (.int .i64 (n : Int)) (.int .i64 (n : Int))).run Tryz.prog w = .ok (.slice (some ⟨w.heap.size, 0, none⟩) n n) (w.alloc (.cells (madeCells (Value.agg #[.int .i64 0, .int .i64 0, .slice none 0 0, .slice none 0 0, .bool false, .slice none 0 0]).cells (n * 6)) 119)) := by
 obtain ⟨i0, hi, hz0, hz1, hz2⟩ := info_parts (show (Tryz.prog.info? 119).map (fun i => (i.zero, i.size, i.bytes)) = some (some (.agg #[.int .i64 0, .int .i64 0, .slice none 0 0, .slice none 0 0, .bool false, .slice none 0 0]), 6, 96) from by kernel_rfl)
 have := run_make (P := Tryz.prog) w 43 119 i0 _ Tryz.underlying43 hi hz0 .i64 .i64 (n : Int) (n : Int) (by omega) (by omega) (by rw [hz2]; omega) (by omega)
 rw [hz1] at this
 simpa using this
def zeroMendS : Pd 6 Mn := ⟨[.int .i64 0, .int .i64 0, .slice none 0 0, .slice none 0 0, .bool false, .slice none 0 0], rfl, ⟨0, 0, [], [], false, []⟩⟩
set_option maxHeartbeats 4000000 in
theorem toMendS_ (v : Value) (ms : List Mn) (w : World) (hl : sizMendS ms ≤ 1048576) (hv : RdMendS v ms w) :
  Calls Tryz.prog 39 #[v] w fun e w' => ∃ u, e = .returned u ∧ Sits (OwMendS w.heap.size w'.heap.size u ms) w.heap.size w'.heap.size w' ∧ Below w.heap.size w w' := by
 obtain ⟨rs, rfl, hr, hn⟩ := hv
 have hlen : rs.length ≤ 1048576 := by unfold sizMendS sizD at hl; rw [List.length_map] at hl; omega
 have HS : Hid (∀ k (hk : k < rs.length), sizMend rs[k].m ≤ 1048576) := fun k hk => by
  have h1 := sumPd_mem sizMend (ms := rs.map Pd.m) (k := k) (by simpa using hk)
  rw [List.getElem_map] at h1
  unfold sizMendS sizD at hl
  omega
 have HV := dH fun W (hb : Below w.heap.size w W) => hr.below hb
 have HN := dH fun W (hb : Below w.heap.size w W) k (hk : k < rs.length) => (hn _ (List.getElem_mem hk)).below hb
 obtain ⟨h0, a, cap, rfl, -, -⟩ := hr
 have hmk := makeMendS rs.length (by omega)
 clear hn hl
 go_enter Tryz.func39, Tryz.ntmps39
 go_wp2
 go_loopw [4] (fun x wr => ∃ (k : Nat) (f : Nat → Pd 6 Mn) (s : Nat → Nat), x = .int .i64 (k : Int) ∧ k ≤ rs.length ∧ Hid (CopD OwMend wr w.heap.size rs k f s) ∧ w.heap.size < wr.heap.size ∧ Below w.heap.size w wr) (fun x _ => rs.length - (intOf x).toNat)
 case atStart => exact ⟨0, fun _ => zeroMendS, fun _ => w.heap.size + 1, rfl, Nat.zero_le _, CopD.start w _ rs 119 zeroMendS rfl (by kernel_rfl), by simp, (Below.refl _ _).alloc (Nat.le_refl _) _⟩
 case round =>
  obtain ⟨k, f, s, rfl, hk, hz, hsz, hb⟩ := hrel
  by_cases hlt : (k : Int) < (rs.length : Int)
  ·have hkl : k < rs.length := by omega
   obtain ⟨b, off, rfl, hc⟩ := (dU HV wr hb).pd hkl
   have CE := dH fun W (hB : Below wr.heap.size wr W) => toMend_ rs[k].val rs[k].m W (dU HS k hkl) (dU HN W (bT hb hB) k hkl)
   have hin : Hid (∀ (w2 : World) (e : Pd 6 Mn), Below wr.heap.size wr w2 → e.m = rs[k].m → OwMend wr.heap.size w2.heap.size e.val e.m w2 → CopD OwMend (setAll w.heap.size (0 + k * 6) 0 e.c w2) w.heap.size rs (k + 1) (putG f k e) (fun i => if i ≤ k then s i else w2.heap.size)) := fun w2 e hB he ho => CopD.step (Ow := OwMend) sitsOfMend (fun h h1 => OwMend.wideD h h1) (dU hz) hkl hB hsz e he ho
   have hrow : Hid (∀ W, Below wr.heap.size wr W → RowG 6 Pd.c W w.heap.size 0 rs.length f) := fun W hB => (dU hz).1.below hB
   have hfk := (f k).l
   have hF := formMend (dU HN wr hb k hkl)
   have hck := hc k hkl
   generalize rs[k] = y at *
   obtain ⟨yc, yl, m⟩ := y
   obtain ⟨xsa, xsc, xea, xec, xwa, xwc, hF, -, -, -⟩ := hF
   have hF := Pd.eq hF
   simp only at hF
   subst hF
   unfold Pd.val at CE
   simp only at *
   have c0 := hck 0 _ rfl
   have c1 := hck 1 _ rfl
   have c2 := hck 2 _ rfl
   have c3 := hck 3 _ rfl
   have c4 := hck 4 _ rfl
   have c5 := hck 5 _ rfl
   simp only [Nat.add_zero] at c0 c1 c2 c3 c4 c5
   clear hc hz hck
   go_wp2_with fail
   refine (dU CE _ (Below.refl _ _)).mono ?_
   rintro r w2 ⟨u, rfl, so, b2⟩
   have ho := so.now
   obtain ⟨qsa, qsc, qea, qec, qwa, qwc, rfl, -, -, -⟩ := formMend ho.rd
   have Z2 := dU hrow w2 b2 k hkl
   obtain ⟨z0, f0⟩ := Z2 0 _ (List.getElem?_eq_getElem (by rw [hfk]; decide))
   obtain ⟨z1, f1⟩ := Z2 1 _ (List.getElem?_eq_getElem (by rw [hfk]; decide))
   obtain ⟨z2, f2⟩ := Z2 2 _ (List.getElem?_eq_getElem (by rw [hfk]; decide))
   obtain ⟨z3, f3⟩ := Z2 3 _ (List.getElem?_eq_getElem (by rw [hfk]; decide))
   obtain ⟨z4, f4⟩ := Z2 4 _ (List.getElem?_eq_getElem (by rw [hfk]; decide))
   obtain ⟨z5, f5⟩ := Z2 5 _ (List.getElem?_eq_getElem (by rw [hfk]; decide))
   simp only [Nat.zero_add, Nat.add_zero] at z0 f0 z1 f1 z2 f2 z3 f3 z4 f4 z5 f5
   have Z3 := dU hin w2 ⟨[.int .i64 m.bye, .int .i64 m.epoch, .slice qsa m.sealed.length qsc, .slice qea m.seen.length qec, .bool m.planned, .slice qwa m.wrote.length qwc], rfl, m⟩ b2 rfl ho
   simp only [setAll, Nat.zero_add, Nat.add_zero, Nat.reduceAdd] at Z3
   have Z4 := dH Z3
   have hb2 := bT hb b2
   have hb3 := dH ((((((hb2.setCell (p := ⟨w.heap.size, k * 6, none⟩) (Nat.le_refl _) (.int .i64 m.bye)).setCell (p := ⟨w.heap.size, k * 6 + 1, none⟩) (Nat.le_refl _) (.int .i64 m.epoch)).setCell (p := ⟨w.heap.size, k * 6 + 2, none⟩) (Nat.le_refl _) (.slice qsa m.sealed.length qsc)).setCell (p := ⟨w.heap.size, k * 6 + 3, none⟩) (Nat.le_refl _) (.slice qea m.seen.length qec)).setCell (p := ⟨w.heap.size, k * 6 + 4, none⟩) (Nat.le_refl _) (.bool m.planned)).setCell (p := ⟨w.heap.size, k * 6 + 5, none⟩) (Nat.le_refl _) (.slice qwa m.wrote.length qwc))
   have hs2 : w.heap.size < ((((((w2.setCell ⟨w.heap.size, k * 6, none⟩ (.int .i64 m.bye)).setCell ⟨w.heap.size, k * 6 + 1, none⟩ (.int .i64 m.epoch)).setCell ⟨w.heap.size, k * 6 + 2, none⟩ (.slice qsa m.sealed.length qsc)).setCell ⟨w.heap.size, k * 6 + 3, none⟩ (.slice qea m.seen.length qec)).setCell ⟨w.heap.size, k * 6 + 4, none⟩ (.bool m.planned)).setCell ⟨w.heap.size, k * 6 + 5, none⟩ (.slice qwa m.wrote.length qwc)).heap.size := by simpa using Nat.lt_of_lt_of_le hsz b2.size
   generalize (f k).c[0] = o0 at *
   generalize (f k).c[1] = o1 at *
   generalize (f k).c[2] = o2 at *
   generalize (f k).c[3] = o3 at *
   generalize (f k).c[4] = o4 at *
   generalize (f k).c[5] = o5 at *
   clear CE b2 c0 c1 c2 c3 c4 c5 hb hrow Z2 hb2 hin ho so Z3 hfk
   go_wp2
   go_roundw
   case rel => exact ⟨k + 1, _, _, by go_num, by omega, dU Z4, hs2, dU hb3⟩
   case measure => simp [intOf]; omega
  ·have O : Hid (Sits (OwMendS w.heap.size wr.heap.size (.slice (some ⟨w.heap.size, 0, none⟩) rs.length rs.length) (rs.map Pd.m)) w.heap.size wr.heap.size wr) := by
    obtain rfl : k = rs.length := by omega
    exact CopD.done (Ow := OwMend) sitsOfMend (dU hz) h0
   clear hz HV HN HS
   go_wp2
   go_ret
   exact ⟨_, rfl, dU O, hb⟩
end Go.Proofs.YtekgkjomdpjkbaaGreat
