/- Rows of stores, as the exact laws handle them: copied, marked; among a law's arguments. -/
import Derived.Test.YtejmfohkobhidaaUsA
import Derived.Test.YtejmfohkobhidaaGbO
import Derived.Laws.MakeOwn
namespace Go.Proofs.Ytejmfohkobhidaa
open Go.ChangeShapes Go.WideShapes Go.ChangeAt Go.RowKit
set_option linter.unusedVariables false
set_option linter.unusedSimpArgs false
set_option maxRecDepth 100000

theorem OwStore.wide {lo hi lo' hi' : Nat} {v : Value} {m : St} {w : World} (h : OwStore lo hi v m w) (h1 : lo' ≤ lo) (h2 : hi ≤ hi') : OwStore lo' hi' v m w := by
  obtain ⟨kv, lv, e, a, b, c⟩ := h
  exact ⟨kv, lv, e, a.wide h1 h2, b.wide h1 h2, c⟩
theorem OwStore.farS {lo hi b o : Nat} {v : Value} {m : St} {w : World} (h : OwStore lo hi v m w) (hf : hi ≤ w.heap.size) (hb : b < lo) (u : Value) : OwStore lo hi v m (w.setCell ⟨b, o, none⟩ u) :=
  (h.sits hf).all _ fun k h1 h2 => Below.heap_setCell _ _ _ k (fun e => by simp at e; omega)
theorem OwStore.belowS {lo hi : Nat} {v : Value} {m : St} {w w' : World} (h : OwStore lo hi v m w) (hf : hi ≤ w.heap.size) (hb : Below w.heap.size w w') : OwStore lo hi v m w' := ((h.sits hf).below hb).now
theorem OwStore.wrS {lo hi lo' hi' : Nat} {v : Value} {m : St} {w w' : World} (h : OwStore lo hi v m w) (hf : hi ≤ w.heap.size) (hw : Wr lo' hi' w w') (hd : hi ≤ lo' ∨ hi' ≤ lo) : OwStore lo hi v m w' := ((h.sits hf).wr hw hd).now
theorem OwStore.ps {lo hi : Nat} {p : Ps} {W : World} (h : OwStore lo hi (psVal p) p.m W) : OwEntryS lo hi (.slice p.ka p.m.kept.length p.kc) p.m.kept W ∧ OwEntryS lo hi (.slice p.la p.m.late.length p.lc) p.m.late W ∧ (p.m.kept = [] ∨ p.m.late = [] ∨ blockOf (.slice p.ka p.m.kept.length p.kc) ≠ blockOf (.slice p.la p.m.late.length p.lc)) := by
  obtain ⟨kv, lv, e, h1, h2, h3⟩ := h
  simp [psVal] at e
  obtain ⟨rfl, rfl⟩ := e
  exact ⟨h1, h2, h3⟩
theorem makeS (n : Nat) (h : n ≤ 1073741824) (w : World) : (Instr.makeSlice 43 (.int .i64 (n : Int)) (.int .i64 (n : Int))).run Try.prog w = .ok (.slice (some ⟨w.heap.size, 0, none⟩) n n) (w.alloc (.cells (madeCells (Value.agg #[.slice none 0 0, .slice none 0 0, .int .i64 0]).cells (n * 3)) 26)) := by
  obtain ⟨i0, hi, hz0, hz1, hz2⟩ := info_parts (elemS).info
  have := run_make (P := Try.prog) w 43 26 i0 _ Try.underlying43 hi hz0 .i64 .i64 (n : Int) (n : Int) (by omega) (by omega) (by rw [hz2]; omega) (by omega)
  rw [hz1] at this
  simpa using this
/-- Zero. -/
def zeroPs : Ps := ⟨none, 0, none, 0, ⟨[], [], 0⟩⟩
theorem zeroPs_cells : ∀ (j : Nat) (u : Value), (psCl zeroPs)[j]? = some u → (Value.agg #[.slice none 0 0, .slice none 0 0, .int .i64 0]).cells[j]? = some u := by
  have e : (Value.agg #[.slice none 0 0, .slice none 0 0, .int .i64 0]).cells = #[.slice none 0 0, .slice none 0 0, .int .i64 0] := by kernel_rfl
  intro j u hu
  rw [e]
  have : (psCl zeroPs) = [.slice none 0 0, .slice none 0 0, .int .i64 0] := rfl
  rw [this] at hu
  simpa using hu
/-- The stores copied so far. -/
def CopS (wr : World) (b : Nat) (rs : List Ps) (k : Nat) (f : Nat → Ps) (s : Nat → Nat) : Prop :=
  RowG 3 psCl wr b 0 rs.length f ∧ Spn s k (b + 1) wr.heap.size ∧ ∀ i (h : i < rs.length), i < k → (f i).m = rs[i].m ∧ OwStore (s i) (s (i + 1)) (psVal (f i)) (f i).m wr
theorem CopS.step {wr w2 : World} {b k : Nat} {rs : List Ps} {f : Nat → Ps} {s : Nat → Nat} (h : CopS wr b rs k f s) (hk : k < rs.length) (hb2 : Below wr.heap.size wr w2) (hbw : b < wr.heap.size) {ka la : Option Addr} {kc lc : Nat} (ho : OwStore wr.heap.size w2.heap.size (psVal ⟨ka, kc, la, lc, rs[k].m⟩) rs[k].m w2) :
    CopS (((w2.setCell ⟨b, k * 3, none⟩ (.slice ka rs[k].m.kept.length kc)).setCell ⟨b, k * 3 + 1, none⟩ (.slice la rs[k].m.late.length lc)).setCell ⟨b, k * 3 + 2, none⟩ (.int .i64 rs[k].m.lock)) b rs (k + 1) (putG f k ⟨ka, kc, la, lc, rs[k].m⟩) (fun i => if i ≤ k then s i else w2.heap.size) := by
  obtain ⟨h1, h2, h3⟩ := h
  have hsz := hb2.size
  have far : ∀ {lo hi : Nat} {v : Value} {m : St}, OwStore lo hi v m w2 → hi ≤ w2.heap.size → b < lo → OwStore lo hi v m (((w2.setCell ⟨b, k * 3, none⟩ (.slice ka rs[k].m.kept.length kc)).setCell ⟨b, k * 3 + 1, none⟩ (.slice la rs[k].m.late.length lc)).setCell ⟨b, k * 3 + 2, none⟩ (.int .i64 rs[k].m.lock)) := fun {lo hi v m} q hf hb => ((q.farS hf hb _).farS (by simpa using hf) hb _).farS (by simpa using hf) hb _
  have hsk : s k ≤ wr.heap.size := h2.2.2
  refine ⟨?_, ⟨?_, fun i hi => ?_, ?_⟩, fun i hi hik => ?_⟩
  · have r1 := (h1.below hb2).put psCl_len hk 0 (by decide) (.slice ka rs[k].m.kept.length kc) ⟨ka, kc, (f k).la, (f k).lc, ⟨rs[k].m.kept, (f k).m.late, (f k).m.lock⟩⟩ rfl
    have r2 := r1.put psCl_len hk 1 (by decide) (.slice la rs[k].m.late.length lc) ⟨ka, kc, la, lc, ⟨rs[k].m.kept, rs[k].m.late, (f k).m.lock⟩⟩ (by rw [putG_same]; rfl)
    have r3 := r2.put psCl_len hk 2 (by decide) (.int .i64 rs[k].m.lock) ⟨ka, kc, la, lc, rs[k].m⟩ (by rw [putG_same]; rfl)
    simpa [putG_twice] using r3
  · simpa using h2.1
  · show (if i ≤ k then s i else w2.heap.size) ≤ (if i + 1 ≤ k then s (i + 1) else w2.heap.size)
    rcases Nat.lt_or_ge i k with h | h
    · have := h2.2.1 i h
      rw [if_pos (by omega), if_pos (by omega)]
      exact this
    · obtain rfl : i = k := by omega
      rw [if_pos (Nat.le_refl _), if_neg (by omega)]
      omega
  · show (if k + 1 ≤ k then s (k + 1) else w2.heap.size) ≤ _
    rw [if_neg (by omega)]
    simp
  · show _ ∧ OwStore (if i ≤ k then s i else w2.heap.size) (if i + 1 ≤ k then s (i + 1) else w2.heap.size) _ _ _
    by_cases e : i = k
    · subst e
      rw [putG_same, if_pos (Nat.le_refl _), if_neg (by omega)]
      have hlo := h2.lo i (Nat.le_refl _)
      exact ⟨rfl, far (ho.wide hsk (Nat.le_refl _)) (Nat.le_refl _) (by omega)⟩
    · rw [putG_ne _ _ e, if_pos (by omega), if_pos (by omega)]
      have q := h3 i hi (by omega)
      have a1 := h2.lo i (by omega)
      have a2 := h2.hi (i + 1) (by omega)
      exact ⟨q.1, far (q.2.belowS a2 hb2) (by omega) (by omega)⟩
/-- A marked store of a row. -/
def mkSt (k : Nat) (m : St) : St := ⟨mkEntryS k m.kept, mkEntryS (k + cntEntryS m.kept) m.late, ((k + cntEntryS m.kept + cntEntryS m.late : Nat) : Int)⟩
def mkStoreS (k0 : Nat) (ms : List St) : List St := (List.range ms.length).map fun i => mkSt (k0 + cntStoreS (ms.take i)) (ms.getD i ⟨[], [], 0⟩)
/-- Stores of which the first k are marked. -/
def mkFS (k0 : Nat) (rs : List Ps) (k : Nat) (i : Nat) : Ps :=
  if i < k then ⟨(rs.getD i zeroPs).ka, (rs.getD i zeroPs).kc, (rs.getD i zeroPs).la, (rs.getD i zeroPs).lc, mkSt (k0 + cntStoreS ((rs.map Ps.m).take i)) (rs.getD i zeroPs).m⟩ else rs.getD i zeroPs
/-- The state of marking. -/
def MarkS (lo hi k0 : Nat) (w wr : World) (b off : Nat) (rs : List Ps) (s : Nat → Nat) (k : Nat) : Prop :=
  RowG 3 psCl wr b off rs.length (mkFS k0 rs k) ∧ (∀ i, i < rs.length → OwStore (s i) (s (i + 1)) (psVal (mkFS k0 rs k i)) (mkFS k0 rs k i).m wr) ∧ Wr lo hi w wr ∧ hi ≤ wr.heap.size
theorem getD_ps {rs : List Ps} {k : Nat} (h : k < rs.length) : rs.getD k zeroPs = rs[k] := by rw [List.getD_eq_getElem?_getD, List.getElem?_eq_getElem h]; rfl
theorem MarkS.step {lo hi k0 : Nat} {w wr w2 : World} {b off k : Nat} {rs : List Ps} {s : Nat → Nat} (h : MarkS lo hi k0 w wr b off rs s k) (hk : k < rs.length) (hb1 : lo ≤ b) (hs0 : b < s 0) (hsp : Spn s rs.length lo hi)
    (o1 : OwEntryS (s k) (s (k + 1)) (.slice rs[k].ka rs[k].m.kept.length rs[k].kc) (mkEntryS (k0 + cntStoreS ((rs.map Ps.m).take k)) rs[k].m.kept) w2) (o2 : OwEntryS (s k) (s (k + 1)) (.slice rs[k].la rs[k].m.late.length rs[k].lc) (mkEntryS (k0 + cntStoreS ((rs.map Ps.m).take k) + cntEntryS rs[k].m.kept) rs[k].m.late) w2)
    (sep : rs[k].m.kept = [] ∨ rs[k].m.late = [] ∨ blockOf (.slice rs[k].ka rs[k].m.kept.length rs[k].kc) ≠ blockOf (.slice rs[k].la rs[k].m.late.length rs[k].lc)) (hW : Wr (s k) (s (k + 1)) wr w2) :
    RowG 3 psCl w2 b off rs.length (mkFS k0 rs k) ∧ MarkS lo hi k0 w (w2.setCell ⟨b, off + k * 3 + 2, none⟩ (.int .i64 ((k0 + cntStoreS ((rs.map Ps.m).take k) + cntEntryS rs[k].m.kept + cntEntryS rs[k].m.late : Nat) : Int))) b off rs s (k + 1) := by
  obtain ⟨h1, h2, h3, h4⟩ := h
  have ek : mkFS k0 rs k k = rs[k] := by unfold mkFS; rw [if_neg (by omega), getD_ps hk]
  have ek1 : mkFS k0 rs (k + 1) k = ⟨rs[k].ka, rs[k].kc, rs[k].la, rs[k].lc, mkSt (k0 + cntStoreS ((rs.map Ps.m).take k)) rs[k].m⟩ := by unfold mkFS; rw [if_pos (by omega), getD_ps hk]
  have ei : ∀ i, i ≠ k → mkFS k0 rs (k + 1) i = mkFS k0 rs k i := fun i hi => by
    unfold mkFS
    by_cases e : i < k
    · rw [if_pos (by omega), if_pos e]
    · rw [if_neg (by omega), if_neg e]
  have l0 := hsp.lo k (by omega)
  have l1 := hsp.hi (k + 1) (by omega)
  have l2 := hsp.mono k 0 (Nat.zero_le _) (by omega)
  have l3 := hsp.mono (k + 1) k (by omega) (by omega)
  have hbh : b < hi := by omega
  have hsz := hW.size
  have hR : RowG 3 psCl w2 b off rs.length (mkFS k0 rs k) := h1.wr hW (.inl (by omega))
  refine ⟨hR, ?_, fun i hil => ?_, ?_, ?_⟩
  · have r1 := hR.put psCl_len hk 2 (by decide) (.int .i64 ((k0 + cntStoreS ((rs.map Ps.m).take k) + cntEntryS rs[k].m.kept + cntEntryS rs[k].m.late : Nat) : Int)) ⟨rs[k].ka, rs[k].kc, rs[k].la, rs[k].lc, mkSt (k0 + cntStoreS ((rs.map Ps.m).take k)) rs[k].m⟩ (by rw [ek]; unfold psCl mkSt; simp only [mkEntryS_len]; rfl)
    refine r1.congr fun i hi => ?_
    by_cases e : i = k
    · subst e
      rw [putG_same, ek1]
    · rw [putG_ne _ _ e, ei i e]
  · by_cases e : i = k
    · subst e
      rw [ek1]
      have q : OwStore (s i) (s (i + 1)) (psVal ⟨rs[i].ka, rs[i].kc, rs[i].la, rs[i].lc, mkSt (k0 + cntStoreS ((rs.map Ps.m).take i)) rs[i].m⟩) (mkSt (k0 + cntStoreS ((rs.map Ps.m).take i)) rs[i].m) w2 := by
        refine ⟨_, _, by unfold psVal mkSt; simp only [mkEntryS_len], o1, o2, ?_⟩
        rcases sep with h | h | h
        · exact .inl (mkEntryS_nil.2 h)
        · exact .inr (.inl (mkEntryS_nil.2 h))
        · exact .inr (.inr h)
      exact q.farS (by omega) (by omega) _
    · rw [ei i e]
      have a1 := hsp.lo i (by omega)
      have a2 := hsp.hi (i + 1) (by omega)
      have a3 := hsp.mono i 0 (Nat.zero_le _) (by omega)
      refine ((h2 i hil).wrS (by omega) hW ?_).farS (by omega) (by omega) _
      rcases Nat.lt_or_gt_of_ne e with h | h
      · have := hsp.mono k (i + 1) (by omega) (by omega)
        exact .inl (by omega)
      · have := hsp.mono i (k + 1) (by omega) (by omega)
        exact .inr (by omega)
  · exact (h3.trans (hW.wider l0 l1)).set hb1 hbh _
  · simp
    omega
section
variable {H : Type} {enc : TypeId × Value → H} {W : World} {r : Reach} {b0 base : Nat} {held : Bool} {v : Value} {d : DataW H} {p : List MemPlace}
def okStoreS (ms : List St) : Prop := ∀ m ∈ ms, fitS m
def IsStoreS (v : Value) (ms : List St) (w : World) : Prop := RdStoreS v ms w ∧ okStoreS ms
theorem txtSS_of {ms : List St} (h : okStoreS ms) : txtSS ms := fun m hm => ⟨fun e he => ((h m hm).1 e he).2.2.2.2, fun e he => ((h m hm).2.1 e he).2.2.2.2⟩
theorem okStoreS_nil : okStoreS [] := fun m hm => by cases hm
end
end Go.Proofs.Ytejmfohkobhidaa
