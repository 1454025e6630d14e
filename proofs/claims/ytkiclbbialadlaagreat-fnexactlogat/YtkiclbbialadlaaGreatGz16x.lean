/- Several texts in one: UsB. -/
import Derived.Test.YtkiclbbialadlaaGreatGz20
import Derived.Test.YtkiclbbialadlaaGreatGbO
import Derived.Laws.MakeOwn
namespace Go.Proofs.YtkiclbbialadlaaGreat
open Go.ChangeShapes Go.WideShapes Go.ChangeAt Go.RowKit
set_option linter.unusedSimpArgs false
set_option linter.unusedVariables false
set_option maxRecDepth 100000
theorem OwStore.wide {lo hi lo' hi' : Nat} {v : Value} {m : St} {w : World} (h : OwStore lo hi v m w) (h1 : lo' ≤ lo) (h2 : hi ≤ hi') : OwStore lo' hi' v m w := by
  obtain ⟨kv, lv, e, a, b, c⟩ := h
  exact ⟨kv, lv, e, a.wide h1 h2, b.wide h1 h2, c⟩
theorem OwStore.farS {lo hi b o : Nat} {v : Value} {m : St} {w : World} (h : OwStore lo hi v m w) (hf : hi ≤ w.heap.size) (hb : b < lo) (u : Value) : OwStore lo hi v m (w.setCell ⟨b, o, none⟩ u) :=
  (h.sits hf).all _ fun k h1 h2 => Below.heap_setCell _ _ _ k (fun e => by simp at e; omega)
theorem OwStore.belowS {lo hi : Nat} {v : Value} {m : St} {w w' : World} (h : OwStore lo hi v m w) (hf : hi ≤ w.heap.size) (hb : Below w.heap.size w w') : OwStore lo hi v m w' := ((h.sits hf).below hb).now
theorem OwStore.wrS {lo hi lo' hi' : Nat} {v : Value} {m : St} {w w' : World} (h : OwStore lo hi v m w) (hf : hi ≤ w.heap.size) (hw : Wr lo' hi' w w') (hd : hi ≤ lo' ∨ hi' ≤ lo) : OwStore lo hi v m w' := ((h.sits hf).wr hw hd).now
theorem OwStore.ps {lo hi : Nat} {p : Ps} {W : World} (h : OwStore lo hi (psVal p) p.m W) : OwEntryS lo hi (.slice p.ka p.m.kept.length p.kc) p.m.kept W ∧ OwEntryS lo hi (.slice p.la p.m.late.length p.lc) p.m.late W ∧ (p.m.kept = [] ∨ p.m.late = [] ∨ bO (.slice p.ka p.m.kept.length p.kc) ≠ bO (.slice p.la p.m.late.length p.lc)) := by
  obtain ⟨kv, lv, e, h1, h2, h3⟩ := h
  simp [psVal] at e
  obtain ⟨rfl, rfl⟩ := e
  exact ⟨h1, h2, h3⟩
theorem makeS (n : Nat) (h : n ≤ 1073741824) (w : World) : (Instr.makeSlice 39 (.int .i64 (n : Int)) (.int .i64 (n : Int))).run Tryz.prog w = .ok (.slice (some ⟨w.heap.size, 0, none⟩) n n) (w.alloc (.cells (madeCells (Value.agg #[.slice none 0 0, .slice none 0 0, .int .i64 0]).cells (n * 3)) 125)) := by
  obtain ⟨i0, hi, hz0, hz1, hz2⟩ := info_parts (elemS).info
  have := run_make (P := Tryz.prog) w 39 125 i0 _ Tryz.underlying39 hi hz0 .i64 .i64 (n : Int) (n : Int) (by omega) (by omega) (by rw [hz2]; omega) (by omega)
  rw [hz1] at this
  simpa using this
def zeroPs : Ps := ⟨none, 0, none, 0, ⟨[], [], 0⟩⟩
theorem zeroPs_cells : ∀ (j : Nat) (u : Value), (psCl zeroPs)[j]? = some u → (Value.agg #[.slice none 0 0, .slice none 0 0, .int .i64 0]).cells[j]? = some u := by
  have e : (Value.agg #[.slice none 0 0, .slice none 0 0, .int .i64 0]).cells = #[.slice none 0 0, .slice none 0 0, .int .i64 0] := by kernel_rfl
  intro j u hu
  rw [e]
  have : (psCl zeroPs) = [.slice none 0 0, .slice none 0 0, .int .i64 0] := rfl
  rw [this] at hu
  simpa using hu
def CopS (wr : World) (b : Nat) (rs : List Ps) (k : Nat) (f : Nat → Ps) (s : Nat → Nat) : Prop :=
  RowG 3 psCl wr b 0 rs.length f ∧ Spn s k (b + 1) wr.heap.size ∧ ∀ i (h : i < rs.length), i < k → (f i).m = rs[i].m ∧ OwStore (s i) (s (i + 1)) (psVal (f i)) (f i).m wr
theorem CopS.step {wr w2 : World} {b k : Nat} {rs : List Ps} {f : Nat → Ps} {s : Nat → Nat} (h : CopS wr b rs k f s) (hk : k < rs.length) (hb2 : Below wr.heap.size wr w2) (hbw : b < wr.heap.size) {ka la : Option Addr} {kc lc : Nat} (ho : OwStore wr.heap.size w2.heap.size (psVal ⟨ka, kc, la, lc, rs[k].m⟩) rs[k].m w2) :
    CopS (((w2.setCell ⟨b, k * 3, none⟩ (.slice ka rs[k].m.kept.length kc)).setCell ⟨b, k * 3 + 1, none⟩ (.slice la rs[k].m.late.length lc)).setCell ⟨b, k * 3 + 2, none⟩ (.int .i64 rs[k].m.lock)) b rs (k + 1) (putG f k ⟨ka, kc, la, lc, rs[k].m⟩) (fun i => if i ≤ k then s i else w2.heap.size) := by
  obtain ⟨h1, h2, h3⟩ := h
  have hsz := hb2.size
  have far : ∀ {lo hi : Nat} {v : Value} {m : St}, OwStore lo hi v m w2 → hi ≤ w2.heap.size → b < lo → OwStore lo hi v m (((w2.setCell ⟨b, k * 3, none⟩ (.slice ka rs[k].m.kept.length kc)).setCell ⟨b, k * 3 + 1, none⟩ (.slice la rs[k].m.late.length lc)).setCell ⟨b, k * 3 + 2, none⟩ (.int .i64 rs[k].m.lock)) := fun {lo hi v m} q hf hb => ((q.farS hf hb _).farS (by simpa using hf) hb _).farS (by simpa using hf) hb _
  have hsk : s k ≤ wr.heap.size := h2.2.2
  refine ⟨?_, ⟨?_, fun i hi => ?_, ?_⟩, fun i hi hik => ?_⟩
  · have r1 := (h1.below hb2).put psCl_len hk 0 (by decide) (.slice ka rs[k].m.kept.length kc) ⟨ka, kc, (f k).la, (f k).lc, ⟨rs[k].m.kept, (f k).m.late, (f k).m.lock⟩⟩ rfl
    have r2 := r1.put psCl_len hk 1 (by decide) (.slice la rs[k].m.late.length lc) ⟨ka, kc, la, lc, ⟨rs[k].m.kept, rs[k].m.late, (f k).m.lock⟩⟩ (by rw [putG_same]; rfl)
    have r3 := r2.put psCl_len hk 2 (by decide) (.int .i64 rs[k].m.lock) ⟨ka, kc, la, lc, rs[k].m⟩ (by rw [putG_same]; rfl)
    simpa [putG_twice] using r3
  · simpa using h2.1
  · show (if i ≤ k then s i else w2.heap.size) ≤ (if i + 1 ≤ k then s (i + 1) else w2.heap.size)
    rcases Nat.lt_or_ge i k with h | h
    · have := h2.2.1 i h
      rw [if_pos (by omega), if_pos (by omega)]
      exact this
    · obtain rfl : i = k := by omega
      rw [if_pos (Nat.le_refl _), if_neg (by omega)]
      omega
  · show (if k + 1 ≤ k then s (k + 1) else w2.heap.size) ≤ _
    rw [if_neg (by omega)]
    simp
  · show _ ∧ OwStore (if i ≤ k then s i else w2.heap.size) (if i + 1 ≤ k then s (i + 1) else w2.heap.size) _ _ _
    by_cases e : i = k
    · subst e
      rw [putG_same, if_pos (Nat.le_refl _), if_neg (by omega)]
      have hlo := h2.lo i (Nat.le_refl _)
      exact ⟨rfl, far (ho.wide hsk (Nat.le_refl _)) (Nat.le_refl _) (by omega)⟩
    · rw [putG_ne _ _ e, if_pos (by omega), if_pos (by omega)]
      have q := h3 i hi (by omega)
      have a1 := h2.lo i (by omega)
      have a2 := h2.hi (i + 1) (by omega)
      exact ⟨q.1, far (q.2.belowS a2 hb2) (by omega) (by omega)⟩
set_option maxHeartbeats 4000000 in
theorem toStoreS_ (v : Value) (ms : List St) (w : World) (hl : sizStoreS ms ≤ 1048576) (hv : RdStoreS v ms w) :
    Calls Tryz.prog 29 #[v] w fun e w' => ∃ u, e = .returned u ∧ Sits (OwStoreS w.heap.size w'.heap.size u ms) w.heap.size w'.heap.size w' ∧ Below w.heap.size w w' := by
  obtain ⟨rs, rfl, hr, hn⟩ := hv
  have hlen : rs.length ≤ 1048576 := by unfold sizStoreS at hl; rw [List.length_map] at hl; omega
  have HS : Hid (∀ k (hk : k < rs.length), sizStore rs[k].m ≤ 1048576) := fun k hk => by
    have h1 := sumS_mem (ms := rs.map Ps.m) (k := k) (by simpa using hk)
    rw [List.getElem_map] at h1
    unfold sizStoreS at hl
    omega
  have HV := dH fun W (hb : Below w.heap.size w W) => hr.below hb
  have HN := dH fun W (hb : Below w.heap.size w W) k (hk : k < rs.length) => (hn _ (List.getElem_mem hk)).below hb
  obtain ⟨h0, a, cap, rfl, -, -⟩ := hr
  have hmk := makeS rs.length (by omega)
  clear hn hl
  go_enter Tryz.func29, Tryz.ntmps29
  go_wp2
  go_loopw [4] (fun x wr => ∃ (k : Nat) (f : Nat → Ps) (s : Nat → Nat), x = .int .i64 (k : Int) ∧ k ≤ rs.length ∧ Hid (CopS wr w.heap.size rs k f s) ∧ w.heap.size < wr.heap.size ∧ Below w.heap.size w wr) (fun x _ => rs.length - (intOf x).toNat)
  case atStart => exact ⟨0, fun _ => zeroPs, fun _ => w.heap.size + 1, rfl, Nat.zero_le _, ⟨RowG.made w _ rs.length 125 zeroPs rfl zeroPs_cells, ⟨Nat.le_refl _, fun i h => Nat.le_refl _, by simp⟩, fun i h h' => by omega⟩, by simp, (Below.refl _ _).alloc (Nat.le_refl _) _⟩
  case round =>
    obtain ⟨k, f, s, rfl, hk, hz, hsz, hb⟩ := hrel
    by_cases hlt : (k : Int) < (rs.length : Int)
    · have hkl : k < rs.length := by omega
      obtain ⟨b, off, rfl, hc⟩ := (dU HV wr hb).ps hkl
      obtain ⟨c0, c1, c2⟩ := hc k hkl
      have CE := dH fun W (hB : Below wr.heap.size wr W) => toStore_ (psVal rs[k]) rs[k].m W (dU HS k hkl) (dU HN W (bT hb hB) k hkl)
      have hin : Hid (∀ (w2 : World) (ka la : Option Addr) (kc lc : Nat), Below wr.heap.size wr w2 → OwStore wr.heap.size w2.heap.size (psVal ⟨ka, kc, la, lc, rs[k].m⟩) rs[k].m w2 → CopS (((w2.setCell ⟨w.heap.size, k * 3, none⟩ (.slice ka rs[k].m.kept.length kc)).setCell ⟨w.heap.size, k * 3 + 1, none⟩ (.slice la rs[k].m.late.length lc)).setCell ⟨w.heap.size, k * 3 + 2, none⟩ (.int .i64 rs[k].m.lock)) w.heap.size rs (k + 1) (putG f k ⟨ka, kc, la, lc, rs[k].m⟩) (fun i => if i ≤ k then s i else w2.heap.size)) := fun w2 ka la kc lc hB ho => (dU hz).step hkl hB hsz ho
      have hrow : Hid (∀ W, Below wr.heap.size wr W → RowG 3 psCl W w.heap.size 0 rs.length f) := fun W hB => (dU hz).1.below hB
      unfold psVal at CE
      generalize hy : rs[k] = y at *
      obtain ⟨ya, yc, za, zc, m⟩ := y
      simp only at *
      clear hc hz
      go_wp2_with fail
      refine (dU CE _ (Below.refl _ _)).mono ?_
      rintro r w2 ⟨u, rfl, so, b2⟩
      have ho := so.now
      obtain ⟨qa, qc, ra, rc, rfl, -, -⟩ := formStore ho.rd
      have Z2 := dU hrow w2 b2
      obtain ⟨z0, f0⟩ := Z2 k hkl 0 _ rfl
      obtain ⟨z1, f1⟩ := Z2 k hkl 1 _ rfl
      obtain ⟨z2, f2⟩ := Z2 k hkl 2 _ rfl
      have Z3 := dH (dU hin w2 qa ra qc rc b2 ho)
      simp only [Nat.zero_add, Nat.add_zero] at z0 z1 z2 f0 f1 f2
      have hb2 := bT hb b2
      have hb3 := dH (((hb2.setCell (p := ⟨w.heap.size, k * 3, none⟩) (Nat.le_refl _) (.slice qa m.kept.length qc)).setCell (p := ⟨w.heap.size, k * 3 + 1, none⟩) (Nat.le_refl _) (.slice ra m.late.length rc)).setCell (p := ⟨w.heap.size, k * 3 + 2, none⟩) (Nat.le_refl _) (.int .i64 m.lock))
      have hs2 : w.heap.size < (((w2.setCell ⟨w.heap.size, k * 3, none⟩ (.slice qa m.kept.length qc)).setCell ⟨w.heap.size, k * 3 + 1, none⟩ (.slice ra m.late.length rc)).setCell ⟨w.heap.size, k * 3 + 2, none⟩ (.int .i64 m.lock)).heap.size := by simpa using Nat.lt_of_lt_of_le hsz b2.size
      clear CE b2 c0 c1 c2 hb hrow Z2 hb2 hin ho so hy
      go_wp2
      go_roundw
      case rel => exact ⟨k + 1, _, _, by go_num, by omega, Z3, hs2, dU hb3⟩
      case measure => simp [intOf]; omega
    · have O : Hid (Sits (OwStoreS w.heap.size wr.heap.size (.slice (some ⟨w.heap.size, 0, none⟩) rs.length rs.length) (rs.map Ps.m)) w.heap.size wr.heap.size wr) := by
        obtain ⟨h1, h2, h3⟩ := dU hz
        obtain rfl : k = rs.length := by omega
        have hl : ((List.range rs.length).map f).length = rs.length := by simp
        have hq := h1.own (es := (List.range rs.length).map f) (base := w.heap.size) (cap := rs.length) hl.symm (fun i hi => by simp) (Nat.le_refl _) (by omega) (by omega)
        rw [hl] at hq
        refine OwStoreS.sits ⟨(List.range rs.length).map f, s, ?_, hq, .inr ?_, ?_, fun i hi => ?_⟩ (Nat.le_refl _)
        · apply List.ext_getElem
          · simp
          · intro i q1 q2
            have q3 : i < rs.length := by simpa using q1
            simp [(h3 i q3 q3).1]
        · exact h2.1
        · rw [hl]
          exact ⟨by have := h2.1; omega, h2.2.1, h2.2.2⟩
        · have q3 : i < rs.length := by simpa using hi
          have e1 : ((List.range rs.length).map f)[i] = f i := by simp
          rw [e1]
          exact (h3 i q3 q3).2
      clear hz HV HN HS
      go_wp2
      go_ret
      exact ⟨_, rfl, dU O, hb⟩
def mkSt (k : Nat) (m : St) : St := ⟨mkEntryS k m.kept, mkEntryS (k + cntEntryS m.kept) m.late, ((k + cntEntryS m.kept + cntEntryS m.late : Nat) : Int)⟩
def mkStoreS (k0 : Nat) (ms : List St) : List St := (List.range ms.length).map fun i => mkSt (k0 + cntStoreS (ms.take i)) (ms.getD i ⟨[], [], 0⟩)
def mkFS (k0 : Nat) (rs : List Ps) (k : Nat) (i : Nat) : Ps :=
  if i < k then ⟨(rs.getD i zeroPs).ka, (rs.getD i zeroPs).kc, (rs.getD i zeroPs).la, (rs.getD i zeroPs).lc, mkSt (k0 + cntStoreS ((rs.map Ps.m).take i)) (rs.getD i zeroPs).m⟩ else rs.getD i zeroPs
def MarkS (lo hi k0 : Nat) (w wr : World) (b off : Nat) (rs : List Ps) (s : Nat → Nat) (k : Nat) : Prop :=
  RowG 3 psCl wr b off rs.length (mkFS k0 rs k) ∧ (∀ i, i < rs.length → OwStore (s i) (s (i + 1)) (psVal (mkFS k0 rs k i)) (mkFS k0 rs k i).m wr) ∧ Wr lo hi w wr ∧ hi ≤ wr.heap.size
theorem getD_ps {rs : List Ps} {k : Nat} (h : k < rs.length) : rs.getD k zeroPs = rs[k] := by rw [List.getD_eq_getElem?_getD, List.getElem?_eq_getElem h]; rfl
theorem MarkS.step {lo hi k0 : Nat} {w wr w2 : World} {b off k : Nat} {rs : List Ps} {s : Nat → Nat} (h : MarkS lo hi k0 w wr b off rs s k) (hk : k < rs.length) (hb1 : lo ≤ b) (hs0 : b < s 0) (hsp : Spn s rs.length lo hi)
    (o1 : OwEntryS (s k) (s (k + 1)) (.slice rs[k].ka rs[k].m.kept.length rs[k].kc) (mkEntryS (k0 + cntStoreS ((rs.map Ps.m).take k)) rs[k].m.kept) w2) (o2 : OwEntryS (s k) (s (k + 1)) (.slice rs[k].la rs[k].m.late.length rs[k].lc) (mkEntryS (k0 + cntStoreS ((rs.map Ps.m).take k) + cntEntryS rs[k].m.kept) rs[k].m.late) w2)
    (sep : rs[k].m.kept = [] ∨ rs[k].m.late = [] ∨ bO (.slice rs[k].ka rs[k].m.kept.length rs[k].kc) ≠ bO (.slice rs[k].la rs[k].m.late.length rs[k].lc)) (hW : Wr (s k) (s (k + 1)) wr w2) :
    RowG 3 psCl w2 b off rs.length (mkFS k0 rs k) ∧ MarkS lo hi k0 w (w2.setCell ⟨b, off + k * 3 + 2, none⟩ (.int .i64 ((k0 + cntStoreS ((rs.map Ps.m).take k) + cntEntryS rs[k].m.kept + cntEntryS rs[k].m.late : Nat) : Int))) b off rs s (k + 1) := by
  obtain ⟨h1, h2, h3, h4⟩ := h
  have ek : mkFS k0 rs k k = rs[k] := by unfold mkFS; rw [if_neg (by omega), getD_ps hk]
  have ek1 : mkFS k0 rs (k + 1) k = ⟨rs[k].ka, rs[k].kc, rs[k].la, rs[k].lc, mkSt (k0 + cntStoreS ((rs.map Ps.m).take k)) rs[k].m⟩ := by unfold mkFS; rw [if_pos (by omega), getD_ps hk]
  have ei : ∀ i, i ≠ k → mkFS k0 rs (k + 1) i = mkFS k0 rs k i := fun i hi => by
    unfold mkFS
    by_cases e : i < k
    · rw [if_pos (by omega), if_pos e]
    · rw [if_neg (by omega), if_neg e]
  have l0 := hsp.lo k (by omega)
  have l1 := hsp.hi (k + 1) (by omega)
  have l2 := hsp.mono k 0 (Nat.zero_le _) (by omega)
  have l3 := hsp.mono (k + 1) k (by omega) (by omega)
  have hbh : b < hi := by omega
  have hsz := hW.size
  have hR : RowG 3 psCl w2 b off rs.length (mkFS k0 rs k) := h1.wr hW (.inl (by omega))
  refine ⟨hR, ?_, fun i hil => ?_, ?_, ?_⟩
  · have r1 := hR.put psCl_len hk 2 (by decide) (.int .i64 ((k0 + cntStoreS ((rs.map Ps.m).take k) + cntEntryS rs[k].m.kept + cntEntryS rs[k].m.late : Nat) : Int)) ⟨rs[k].ka, rs[k].kc, rs[k].la, rs[k].lc, mkSt (k0 + cntStoreS ((rs.map Ps.m).take k)) rs[k].m⟩ (by rw [ek]; unfold psCl mkSt; simp only [mkEntryS_len]; rfl)
    refine r1.congr fun i hi => ?_
    by_cases e : i = k
    · subst e
      rw [putG_same, ek1]
    · rw [putG_ne _ _ e, ei i e]
  · by_cases e : i = k
    · subst e
      rw [ek1]
      have q : OwStore (s i) (s (i + 1)) (psVal ⟨rs[i].ka, rs[i].kc, rs[i].la, rs[i].lc, mkSt (k0 + cntStoreS ((rs.map Ps.m).take i)) rs[i].m⟩) (mkSt (k0 + cntStoreS ((rs.map Ps.m).take i)) rs[i].m) w2 := by
        refine ⟨_, _, by unfold psVal mkSt; simp only [mkEntryS_len], o1, o2, ?_⟩
        rcases sep with h | h | h
        · exact .inl (mkEntryS_nil.2 h)
        · exact .inr (.inl (mkEntryS_nil.2 h))
        · exact .inr (.inr h)
      exact q.farS (by omega) (by omega) _
    · rw [ei i e]
      have a1 := hsp.lo i (by omega)
      have a2 := hsp.hi (i + 1) (by omega)
      have a3 := hsp.mono i 0 (Nat.zero_le _) (by omega)
      refine ((h2 i hil).wrS (by omega) hW ?_).farS (by omega) (by omega) _
      rcases Nat.lt_or_gt_of_ne e with h | h
      · have := hsp.mono k (i + 1) (by omega) (by omega)
        exact .inl (by omega)
      · have := hsp.mono i (k + 1) (by omega) (by omega)
        exact .inr (by omega)
  · exact (h3.trans (hW.wider l0 l1)).set hb1 hbh _
  · simp
    omega
set_option maxHeartbeats 4000000 in
theorem markStoreS_ (lo hi : Nat) (v : Value) (m : List St) (k0 : Nat) (w : World) (hk : k0 ≤ 536870912) (hl : cntStoreS m ≤ 536870912) (h : Sits (OwStoreS lo hi v m) lo hi w) :
    Calls Tryz.prog 48 #[v, .int .i64 (k0 : Int)] w fun e w' => e = .returned (.int .i64 ((k0 + cntStoreS m : Nat) : Int)) ∧ Sits (OwStoreS lo hi v (mkStoreS k0 m)) lo hi w' ∧ Wr lo hi w w' := by
  obtain ⟨rs, s, rfl, hO, hB, hsp, hN⟩ := h.now
  have hfit := h.fit
  obtain ⟨-, a, cap, rfl, hcap, -⟩ := hO.rw
  rcases Nat.eq_zero_or_pos rs.length with h0 | h0
  · have hm : rs = [] := List.length_eq_zero_iff.1 h0
    subst hm
    have e1 : mkStoreS k0 (List.map Ps.m ([] : List Ps)) = [] := rfl
    have e2 : k0 + cntStoreS (List.map Ps.m ([] : List Ps)) = k0 := rfl
    rw [e1, e2]
    have h' : Sits (OwStoreS lo hi (.slice a ([] : List Ps).length cap) []) lo hi w := h
    clear hl hO hB e1 e2 hN hsp h
    go_enter Tryz.func48, Tryz.ntmps48
    go_wp2
    go_rounds 1
    go_ret
    exact ⟨rfl, h', Wr.refl _ _ _⟩
  · obtain ⟨b, off, rfl, hb1, Z0⟩ := hO.rowG h0 zeroPs
    have hs0 : b < s 0 := by
      rcases hB with h | h
      · rw [h] at h0; simp at h0
      · exact h
    have HS : Hid (∀ k (hk : k < rs.length), cntStore rs[k].m ≤ 536870912 ∧ cntStoreS ((rs.map Ps.m).take (k + 1)) = cntStoreS ((rs.map Ps.m).take k) + cntStore rs[k].m + 1 ∧ cntStoreS ((rs.map Ps.m).take (k + 1)) ≤ 536870912) := fun k hk => by
      have h1 := cntStoreS_take (rs.map Ps.m) k (by simpa using hk)
      have h2 := cntStoreS_le' (rs.map Ps.m) (k + 1)
      rw [List.getElem_map] at h1
      exact ⟨by omega, h1, by omega⟩
    have M0 : MarkS lo hi k0 w w b off rs s 0 := ⟨Z0.congr fun i hi => by unfold mkFS; rw [if_neg (by omega)], fun i hi => by
      have e : mkFS k0 rs 0 i = rs[i] := by unfold mkFS; rw [if_neg (by omega), getD_ps hi]
      rw [e]
      exact hN i hi, Wr.refl _ _ _, hfit⟩
    have FIN : Hid (∀ W : World, MarkS lo hi k0 w W b off rs s rs.length → Sits (OwStoreS lo hi (.slice (some ⟨b, off, none⟩) rs.length cap) (mkStoreS k0 (rs.map Ps.m))) lo hi W) := fun W ⟨h1, h2, h3, h4⟩ => by
      have hl : ((List.range rs.length).map (mkFS k0 rs rs.length)).length = rs.length := by simp
      have hq := h1.own (es := (List.range rs.length).map (mkFS k0 rs rs.length)) (base := lo) (cap := cap) hl.symm (fun i hi => by simp) hb1 (by omega) (by omega)
      rw [hl] at hq
      refine OwStoreS.sits ⟨(List.range rs.length).map (mkFS k0 rs rs.length), s, ?_, hq, .inr hs0, by rw [hl]; exact hsp, fun i hi => ?_⟩ h4
      · apply List.ext_getElem
        · simp [mkStoreS]
        · intro i q1 q2
          have q3 : i < rs.length := by simpa using q1
          simp only [mkStoreS, List.getElem_map, List.getElem_range]
          unfold mkFS
          rw [if_pos q3, getD_ps q3]
          congr 1
          rw [List.getD_eq_getElem?_getD, List.getElem?_map, List.getElem?_eq_getElem q3]
          rfl
      · have q3 : i < rs.length := by simpa using hi
        have e1 : ((List.range rs.length).map (mkFS k0 rs rs.length))[i] = mkFS k0 rs rs.length i := by simp
        rw [e1]
        exact h2 i q3
    have HSP := dH hsp
    have hcn : Hid (cntStoreS ((rs.map Ps.m).take rs.length) = cntStoreS (rs.map Ps.m)) := by rw [Hid, List.take_of_length_le (by simp)]
    have HM0 := dH M0
    have hlen : rs.length ≤ 9223372036854775807 := by omega
    clear h hO hB Z0 hN hsp M0 hl
    go_enter Tryz.func48, Tryz.ntmps48
    go_wp2
    go_loopw [5, 1] (fun x y wr => ∃ (k K : Nat), x = .int .i64 (k : Int) ∧ y = .int .i64 (K : Int) ∧ k ≤ rs.length ∧ K ≤ 1073741824 ∧ Hid (K = k0 + cntStoreS ((rs.map Ps.m).take k)) ∧ Hid (MarkS lo hi k0 w wr b off rs s k)) (fun x _ _ => rs.length - (intOf x).toNat)
    case atStart => exact ⟨0, k0, rfl, rfl, Nat.zero_le _, by omega, rfl, dU HM0⟩
    case round =>
      obtain ⟨k, K, rfl, rfl, hkk, hKb, hK, hM⟩ := hrel
      by_cases hlt : (k : Int) < (rs.length : Int)
      · have hkl : k < rs.length := by omega
        obtain ⟨s1, s2, s3⟩ := dU HS k hkl
        have ek : mkFS k0 rs k k = rs[k] := by unfold mkFS; rw [if_neg (by omega), getD_ps hkl]
        have hcc : cntStore rs[k].m = cntEntryS rs[k].m.kept + cntEntryS rs[k].m.late := rfl
        have hK' := dU hK
        have l1 := (dU HSP).hi (k + 1) (by omega)
        have l2 := (dU HSP).mono k 0 (Nat.zero_le _) (by omega)
        have h4 := (dU hM).2.2.2
        obtain ⟨z0, f0⟩ := (dU hM).1 k hkl 0 _ rfl
        obtain ⟨ok, ol, sep⟩ := OwStore.ps (by have := (dU hM).2.1 k hkl; rw [ek] at this; exact this)
        have CT := dH (markEntryS_in (s k) (s (k + 1)) _ rs[k].m.kept K wr (by omega) (by omega) (by omega) ok)
        have CT2 := dH fun W (hW : s (k + 1) ≤ W.heap.size) (h : OwEntryS (s k) (s (k + 1)) (.slice rs[k].la rs[k].m.late.length rs[k].lc) rs[k].m.late W) => markEntryS_in (s k) (s (k + 1)) (.slice rs[k].la rs[k].m.late.length rs[k].lc) rs[k].m.late (K + cntEntryS rs[k].m.kept) W (by omega) (by omega) hW h
        have ST : Hid (∀ w2, OwEntryS (s k) (s (k + 1)) (.slice rs[k].ka rs[k].m.kept.length rs[k].kc) (mkEntryS K rs[k].m.kept) w2 → OwEntryS (s k) (s (k + 1)) (.slice rs[k].la rs[k].m.late.length rs[k].lc) (mkEntryS (K + cntEntryS rs[k].m.kept) rs[k].m.late) w2 → Wr (s k) (s (k + 1)) wr w2 →
            RowG 3 psCl w2 b off rs.length (mkFS k0 rs k) ∧ MarkS lo hi k0 w (w2.setCell ⟨b, off + k * 3 + 2, none⟩ (.int .i64 ((K + cntEntryS rs[k].m.kept + cntEntryS rs[k].m.late : Nat) : Int))) b off rs s (k + 1)) := fun w2 o1 o2 hW => by
          have hK' := dU hK
          subst hK'
          exact (dU hM).step hkl hb1 hs0 (dU HSP) o1 o2 sep hW
        have HR : Hid (∀ w2, Wr (s k) (s (k + 1)) wr w2 → RowG 3 psCl w2 b off rs.length (mkFS k0 rs k)) := fun w2 hW => (dU hM).1.wr hW (.inl (by omega))
        have hK2 : Hid (K + cntEntryS rs[k].m.kept + cntEntryS rs[k].m.late + 1 = k0 + cntStoreS ((rs.map Ps.m).take (k + 1))) := by rw [Hid, s2, hcc, dU hK]; omega
        have hKb2 : K + cntEntryS rs[k].m.kept + cntEntryS rs[k].m.late + 1 ≤ 1073741824 := by rw [dU hK2]; omega
        have OL := dH ol
        have SEP := dH sep
        have HK := dH (show s (k + 1) ≤ wr.heap.size by omega)
        simp only [ek, Nat.add_zero] at z0 f0
        have R1 := fun w2 hW => dU HR w2 hW k hkl 1 (.slice rs[k].la rs[k].m.late.length rs[k].lc) (by rw [ek]; rfl)
        have R2 := fun w2 hW => dU HR w2 hW k hkl 2 (.int .i64 rs[k].m.lock) (by rw [ek]; rfl)
        have HR1 := dH R1
        have HR2 := dH R2
        generalize hy : rs[k] = y at *
        obtain ⟨ya, yc, za, zc, m⟩ := y
        simp only at *
        clear hM s1 s2 s3 ok ol sep hcc hK' HR R1 R2 l1 l2 h4 ek hy
        go_wp2_with fail
        refine (dU CT).mono ?_
        rintro r w1 ⟨rfl, o1, ⟨b1, b2, d1, hd1⟩, wr1⟩
        have L1 := (dU OL).wr d1 (by
          rcases hd1 with ⟨h, rfl, rfl⟩ | ⟨h, rfl, rfl⟩
          · exact .inr (.inr (Nat.zero_le _))
          · rcases dU SEP with h' | h' | h'
            · exact absurd h' h
            · exact .inl h'
            · exact .inr (by omega))
        obtain ⟨z1, f1⟩ := dU HR1 w1 wr1
        have CT2' := dH (dU CT2 w1 (by have := wr1.size; have := dU HK; omega) L1)
        have O1 := dH o1
        have W1 := dH wr1
        clear CT o1 d1 hd1 wr1 L1 CT2 z0 f0 HR1
        go_wp2_with fail
        refine (dU CT2').mono ?_
        rintro r w2 ⟨rfl, o2, ⟨b1', b2', d2, hd2⟩, wr2⟩
        have K2 := (dU O1).wr d2 (by
          rcases hd2 with ⟨h, rfl, rfl⟩ | ⟨h, rfl, rfl⟩
          · exact .inr (.inr (Nat.zero_le _))
          · rcases dU SEP with h' | h' | h'
            · exact .inl (mkEntryS_nil.2 h')
            · exact absurd h' h
            · exact .inr (by omega))
        obtain ⟨z2, f2⟩ := dU HR2 w2 ((dU W1).trans wr2)
        have HM2 := dH (dU ST w2 K2 o2 ((dU W1).trans wr2)).2
        clear CT2' o2 d2 hd2 wr2 K2 O1 W1 ST z1 f1 HR2 OL
        have e4 : ((K + cntEntryS m.kept + cntEntryS m.late + 1 : Nat) : Int) = ((K + cntEntryS m.kept + cntEntryS m.late : Nat) : Int) + 1 := by omega
        have G := dH (show ∃ (k' K' : Nat), (Value.int .i64 ((k : Int) + 1)) = .int .i64 (k' : Int) ∧ (Value.int .i64 (((K + cntEntryS m.kept + cntEntryS m.late : Nat) : Int) + 1)) = .int .i64 (K' : Int) ∧ k' ≤ rs.length ∧ K' ≤ 1073741824 ∧ Hid (K' = k0 + cntStoreS ((rs.map Ps.m).take k')) ∧ k' = k + 1 from ⟨k + 1, K + cntEntryS m.kept + cntEntryS m.late + 1, by rw [Int.natCast_add]; rfl, by rw [e4], by omega, hKb2, hK2, rfl⟩)
        have hq : (K + cntEntryS m.kept + cntEntryS m.late : Nat) ≤ 1073741824 := by omega
        generalize (K + cntEntryS m.kept + cntEntryS m.late : Nat) = q at *
        clear e4 hK2 hKb2
        go_wp2
        go_roundw
        case rel =>
          obtain ⟨k', K', g1, g2, g3, g4, g5, rfl⟩ := dU G
          exact ⟨k + 1, K', by go_num, by first | exact g2 | (rw [← g2]; go_num), g3, g4, g5, dU HM2⟩
        case measure => simp [intOf]; omega
      · have e1 : k = rs.length := by omega
        subst e1
        have e2 : Hid ((K : Int) = ((k0 + cntStoreS (rs.map Ps.m) : Nat) : Int)) := by rw [Hid, dU hK, dU hcn]
        have O := dH (dU FIN wr (dU hM))
        have hw := dH (dU hM).2.2.1
        clear hM hK FIN HM0 hcn
        go_wp2
        go_ret
        exact ⟨by have e := dU e2; simp only [Int.natCast_add] at e; simp [e], dU O, dU hw⟩
section
variable {H : Type} {enc : TypeId × Value → H} {W : World} {r : Reach} {b0 base : Nat} {held : Bool} {v : Value} {d : DataW H} {p : List MemPlace}
def okStoreS (ms : List St) : Prop := ∀ m ∈ ms, fitS m
theorem txtSS_of {ms : List St} (h : okStoreS ms) : txtSS ms := fun m hm => ⟨fun e he => ((h m hm).1 e he).2.2.2.2, fun e he => ((h m hm).2.1 e he).2.2.2.2⟩
theorem store_cells {T : TypeId} {n : Nat} {cs : List Value} {x : DataW H × List MemPlace} {f0 f1 f2 : Field} (hu : Tryz.prog.underlying T = some (.struct #[f0, f1, f2])) (hC : Tryz.prog.cellsOf T = 3)
    (q0 : f0.type = 104 ∧ f0.offset = 0) (q1 : f1.type = 104 ∧ f1.offset = 1) (q2 : f2.type = 3 ∧ f2.offset = 2)
    (h : DataW.trod enc Tryz.prog W base (fun _ => true) held n T cs = some x) : ∃ e : Ps, cs = psCl e ∧ RdStore (psVal e) e.m W ∧ fitS e.m := by
  obtain ⟨y0, y1, y2, n', -, hl, h0, h1, h2⟩ := Go.Deep.trod_struct3 hu h
  rw [hC] at hl
  match cs, hl with
  | [c0, c1, c2], _ =>
    rw [q0.1, q0.2, show Tryz.prog.cellsOf 104 = 1 from by kernel_rfl] at h0
    rw [q1.1, q1.2, show Tryz.prog.cellsOf 104 = 1 from by kernel_rfl] at h1
    rw [q2.1, q2.2, show Tryz.prog.cellsOf 3 = 1 from by kernel_rfl] at h2
    obtain ⟨s0, es0, e0, k0, g0⟩ := ents_read h0
    obtain ⟨s1, es1, e1, k1, g1⟩ := ents_read h1
    obtain ⟨n2, e2, -, w2⟩ := DataW.trod_int Tryz.underlying3 h2
    simp at e0 e1 e2
    subst e0 e1 e2
    obtain ⟨a0, d0, rfl, -⟩ := formEntryS k0
    obtain ⟨a1, d1, rfl, -⟩ := formEntryS k1
    exact ⟨⟨a0, d0, a1, d1, ⟨es0, es1, n2⟩⟩, rfl, ⟨_, _, rfl, k0, k1⟩, g0, g1, (bounds_i64 w2).1, (bounds_i64 w2).2⟩
end
end Go.Proofs.YtkiclbbialadlaaGreat
