/- Rows of stores: the model, read and owned; measured and compared as the exact laws do. -/
import Derived.Test.YtejmfohkobhidaaGbG
import Derived.Test.YtejmfohkobhidaaGaB
import Derived.Deep.RegionHeld3
import Derived.Deep.DeepCutAuto
namespace Go.Proofs.Ytejmfohkobhidaa
open Go.ChangeShapes Go.WideShapes Go.ChangeAt Go.RowKit
set_option linter.unusedVariables false
set_option linter.unusedSimpArgs false
set_option maxRecDepth 100000

/-- A store, and where its lists lie. -/
structure Ps where
  ka : Option Addr
  kc : Nat
  la : Option Addr
  lc : Nat
  m : St
/-- Its cells. -/
def psCl (p : Ps) : List Value := [.slice p.ka p.m.kept.length p.kc, .slice p.la p.m.late.length p.lc, .int .i64 p.m.lock]
/-- As a value. -/
def psVal (p : Ps) : Value := .agg #[.slice p.ka p.m.kept.length p.kc, .slice p.la p.m.late.length p.lc, .int .i64 p.m.lock]
theorem psCl_len (p : Ps) : (psCl p).length = 3 := rfl
theorem elemS : Elem (α := Ps) 26 43 (.agg #[.slice none 0 0, .slice none 0 0, .int .i64 0]) 3 56 psCl where
  under := Try.underlying43
  info := by kernel_rfl
  zcells := by kernel_rfl
  pos := by decide
  len := psCl_len
  one := fun a u hu => by
    simp only [psCl, List.mem_cons, List.not_mem_nil, or_false] at hu
    rcases hu with rfl | rfl | rfl <;> rfl
/-- The three cells of a store in a row. -/
def PsAt (w : World) (b o : Nat) (p : Ps) : Prop := w.cell? ⟨b, o, none⟩ = some (.slice p.ka p.m.kept.length p.kc) ∧ w.cell? ⟨b, o + 1, none⟩ = some (.slice p.la p.m.late.length p.lc) ∧ w.cell? ⟨b, o + 2, none⟩ = some (.int .i64 p.m.lock)
theorem PsAt.below {w w' : World} {b o : Nat} {p : Ps} (h : PsAt w b o p) (hb : Below w.heap.size w w') : PsAt w' b o p :=
  ⟨(hb.cell (p := ⟨b, o, none⟩) (dCell_lt h.1)).trans h.1, (hb.cell (p := ⟨b, o + 1, none⟩) (dCell_lt h.2.1)).trans h.2.1, (hb.cell (p := ⟨b, o + 2, none⟩) (dCell_lt h.2.2)).trans h.2.2⟩
theorem Rw.ps {w : World} {a : Option Addr} {n cap : Nat} {rs : List Ps} (h : Rw 3 psCl w (.slice a n cap) rs) {k : Nat} (hk : k < rs.length) : ∃ b off, a = some ⟨b, off, none⟩ ∧ ∀ i (hi : i < rs.length), PsAt w b (off + i * 3) rs[i] := by
  obtain ⟨-, a', cap', e, -, h⟩ := h
  cases e
  obtain ⟨b, off, rfl, hc⟩ := orR_of_lt h hk
  exact ⟨b, off, rfl, fun i hi => ⟨hc i hi 0 _ rfl, hc i hi 1 _ rfl, hc i hi 2 _ rfl⟩⟩
/-- The slice v reads as these stores. -/
def RdStoreS (v : Value) (ms : List St) (W : World) : Prop := ∃ rs : List Ps, rs.map Ps.m = ms ∧ Rw 3 psCl W v rs ∧ ∀ p ∈ rs, RdStore (psVal p) p.m W
theorem RdStoreS.below {v : Value} {ms : List St} {W W' : World} (h : RdStoreS v ms W) (b : Below W.heap.size W W') : RdStoreS v ms W' := by
  obtain ⟨rs, h1, h2, h3⟩ := h
  exact ⟨rs, h1, h2.below b, fun p hp => (h3 p hp).below b⟩
theorem formStoreS {v : Value} {ms : List St} {W : World} (h : RdStoreS v ms W) : ∃ a cap, v = .slice a ms.length cap ∧ ms.length ≤ 9223372036854775807 := by
  obtain ⟨rs, rfl, ⟨h0, a, cap, rfl, -, -⟩, -⟩ := h
  exact ⟨a, cap, by simp, by simpa using h0⟩
/-- Bounds of spans, one behind the other. -/
def Spn (s : Nat → Nat) (n lo hi : Nat) : Prop := lo ≤ s 0 ∧ (∀ i, i < n → s i ≤ s (i + 1)) ∧ s n ≤ hi
theorem Spn.mono {s : Nat → Nat} {n lo hi : Nat} (h : Spn s n lo hi) : ∀ j i, i ≤ j → j ≤ n → s i ≤ s j := by
  intro j
  induction j with
  | zero =>
    intro i hi _
    obtain rfl : i = 0 := by omega
    exact Nat.le_refl _
  | succ k ih =>
    intro i hi hj
    rcases Nat.lt_or_ge i (k + 1) with h1 | h1
    · have := ih i (by omega) (by omega)
      have := h.2.1 k (by omega)
      omega
    · obtain rfl : i = k + 1 := by omega
      exact Nat.le_refl _
theorem Spn.lo {s : Nat → Nat} {n lo hi : Nat} (h : Spn s n lo hi) (i : Nat) (hi' : i ≤ n) : lo ≤ s i := Nat.le_trans h.1 (h.mono i 0 (Nat.zero_le _) hi')
theorem Spn.hi {s : Nat → Nat} {n lo hi : Nat} (h : Spn s n lo hi) (i : Nat) (hi' : i ≤ n) : s i ≤ hi := Nat.le_trans (h.mono n i hi' (Nat.le_refl _)) h.2.2
/-- .. of blocks lo .. hi - 1, all of which may be written: the row, and behind it each store's lists. -/
def OwStoreS (lo hi : Nat) (v : Value) (ms : List St) (W : World) : Prop :=
  ∃ (rs : List Ps) (s : Nat → Nat), rs.map Ps.m = ms ∧ OwnRw 3 psCl W lo v rs ∧ (rs = [] ∨ blockOf v < s 0) ∧ Spn s rs.length lo hi ∧ ∀ i (h : i < rs.length), OwStore (s i) (s (i + 1)) (psVal rs[i]) rs[i].m W
theorem OwStoreS.rd {lo hi : Nat} {v : Value} {ms : List St} {W : World} (h : OwStoreS lo hi v ms W) : RdStoreS v ms W := by
  obtain ⟨rs, s, h1, h2, -, -, h3⟩ := h
  refine ⟨rs, h1, h2.rw, fun p hp => ?_⟩
  obtain ⟨i, hi, rfl⟩ := List.getElem_of_mem hp
  exact (h3 i hi).rd
theorem OwnRw.sitsS {W W' : World} {lo hi : Nat} {v : Value} {rs : List Ps} (h : OwnRw 3 psCl W lo v rs) (hl : rs = [] ∨ blockOf v < hi) (hW : ∀ k, lo ≤ k → k < hi → W'.heap[k]? = W.heap[k]?) : OwnRw 3 psCl W' lo v rs := by
  obtain ⟨h0, a, cap, rfl, hcap, h⟩ := h
  refine ⟨h0, a, cap, rfl, hcap, ?_⟩
  rcases hl with hl | hl
  · exact .inl hl
  · rcases h with h | ⟨b, off, rfl, hb, hc⟩
    · exact .inl h
    · have e := hW b hb hl
      exact .inr ⟨b, off, rfl, hb, fun i hi j u hu => ⟨(World.cell?_of_block (a := ⟨b, off + i * 3 + j, none⟩) e).trans (hc i hi j u hu).1, (World.frozen?_of_block (a := ⟨b, off + i * 3 + j, none⟩) e).trans (hc i hi j u hu).2⟩⟩
theorem OwStoreS.sits {lo hi : Nat} {w : World} {v : Value} {ms : List St} (h : OwStoreS lo hi v ms w) (hf : hi ≤ w.heap.size) : Sits (OwStoreS lo hi v ms) lo hi w := by
  obtain ⟨rs, s, h1, h2, h3, h4, h5⟩ := h
  refine ⟨hf, fun W hW => ⟨rs, s, h1, h2.sitsS (hi := hi) ?_ hW, h3, h4, fun i hi' => ?_⟩⟩
  · rcases h3 with h | h
    · exact .inl h
    · have := h4.hi 0 (Nat.zero_le _)
      exact .inr (by omega)
  · have a1 := h4.lo i (by omega)
    have a2 := h4.hi (i + 1) (by omega)
    exact ((h5 i hi').sits (by omega)).all W fun k k1 k2 => hW k (by omega) (by omega)
/-- How great stores are together. -/
def sumS (ms : List St) : Nat := (ms.map sizStore).sum
theorem sumS_take (ms : List St) (k : Nat) (h : k < ms.length) : sumS (ms.take (k + 1)) = sumS (ms.take k) + sizStore ms[k] := by
  unfold sumS
  rw [List.take_succ_eq_append_getElem h, List.map_append, List.sum_append, List.map_cons, List.map_nil, List.sum_cons, List.sum_nil, Nat.add_zero]
theorem sumS_le (ms : List St) (k : Nat) : sumS (ms.take k) ≤ sumS ms := by
  unfold sumS
  conv => rhs; rw [← List.take_append_drop k ms, List.map_append, List.sum_append]
  exact Nat.le_add_right _ _
theorem sumS_mem {ms : List St} {k : Nat} (h : k < ms.length) : sizStore ms[k] ≤ sumS ms := by
  have h1 := sumS_take ms k h
  have h2 := sumS_le ms (k + 1)
  omega
def sizStoreS (ms : List St) : Nat := ms.length + sumS ms
/-- How many marks they take. -/
def cntStoreS (ms : List St) : Nat := (ms.map fun m => cntStore m + 1).sum
theorem cntStoreS_take (ms : List St) (k : Nat) (h : k < ms.length) : cntStoreS (ms.take (k + 1)) = cntStoreS (ms.take k) + cntStore ms[k] + 1 := by
  unfold cntStoreS
  rw [List.take_succ_eq_append_getElem h, List.map_append, List.sum_append, List.map_cons, List.map_nil, List.sum_cons, List.sum_nil, Nat.add_zero, Nat.add_assoc]
theorem cntStoreS_le' (ms : List St) (k : Nat) : cntStoreS (ms.take k) ≤ cntStoreS ms := by
  unfold cntStoreS
  conv => rhs; rw [← List.take_append_drop k ms, List.map_append, List.sum_append]
  exact Nat.le_add_right _ _
theorem cntStoreS_le {ms : List St} (h : sizStoreS ms ≤ 1048576) : cntStoreS ms ≤ 8388608 := by
  have : ∀ l : List St, cntStoreS l ≤ 4 * sumS l + l.length := by
    intro l
    induction l with
    | nil => simp [cntStoreS, sumS]
    | cons m l ih =>
      have e1 : cntStoreS (m :: l) = cntStore m + 1 + cntStoreS l := by simp [cntStoreS]
      have e2 : sumS (m :: l) = sizStore m + sumS l := by simp [sumS]
      have e3 : cntStore m ≤ 4 * sizStore m := by unfold cntStore sizStore cntEntryS sizEntryS; omega
      rw [e1, e2, List.length_cons]
      omega
  have h1 := this ms
  unfold sizStoreS at h
  omega
def txtSS (ms : List St) : Prop := ∀ m ∈ ms, txtS m
end Go.Proofs.Ytejmfohkobhidaa
