/- Mends, as the exact laws handle them: copied. -/
import Derived.Test.YtaamipmlalplbaaMnSa
namespace Go.Proofs.Ytaamipmlalplbaa
open Go.ChangeShapes Go.WideShapes Go.ChangeAt Go.RowKit
set_option linter.unusedVariables false
set_option linter.unusedSimpArgs false
set_option maxRecDepth 100000

theorem makeL (n : Nat) (h : n ≤ 1073741824) (w : World) : (Instr.makeSlice 76 (.int .i64 (n : Int)) (.int .i64 (n : Int))).run Try.prog w = .ok (.slice (some ⟨w.heap.size, 0, none⟩) n n) (w.alloc (.cells (madeCells (Value.slice none 0 0).cells (n * 1)) 22)) := by
  obtain ⟨i0, hi, hz0, hz1, hz2⟩ := info_parts (elemL).info
  have := run_make (P := Try.prog) w 76 22 i0 _ Try.underlying76 hi hz0 .i64 .i64 (n : Int) (n : Int) (by omega) (by omega) (by rw [hz2]; omega) (by omega)
  rw [hz1] at this
  simpa using this
/-- Zero. -/
def zeroL : Nst (List Int) := ⟨none, 0, []⟩
theorem zeroL_cells : ∀ (j : Nat) (u : Value), (lsCl zeroL)[j]? = some u → (Value.slice none 0 0).cells[j]? = some u := by
  have e : (Value.slice none 0 0).cells = #[.slice none 0 0] := by kernel_rfl
  intro j u hu
  rw [e]
  have : (lsCl zeroL) = [.slice none 0 0] := rfl
  rw [this] at hu
  simpa using hu
theorem madeL (w : World) (n : Nat) (T : TypeId) : RowG 1 lsCl (w.alloc (.cells (madeCells #[.slice none 0 0] n) T)) w.heap.size 0 n (fun _ => zeroL) := by
  have h := RowG.made (sz := 1) (cl := lsCl) w #[.slice none 0 0] n T zeroL rfl (fun j u hu => by
    have : (lsCl zeroL) = [.slice none 0 0] := rfl
    rw [this] at hu
    simpa using hu)
  rw [Nat.mul_one] at h
  exact h
/-- The lists copied so far. -/
def CopL (wr : World) (b : Nat) (rs : List (Nst (List Int))) (k : Nat) (f : Nat → Nst (List Int)) : Prop :=
  RowG 1 lsCl wr b 0 rs.length f ∧ (∀ i (h : i < rs.length), i < k → (f i).m = rs[i].m ∧ OwnN wr (b + 1) (Sv idL (f i)) (f i).m) ∧ ∀ i j, i < k → j < k → i < j → (f i).m = [] ∨ (f j).m = [] ∨ blockOf (Sv idL (f i)) ≠ blockOf (Sv idL (f j))
theorem CopL.step {wr w2 : World} {b k : Nat} {rs : List (Nst (List Int))} {f : Nat → Nst (List Int)} (h : CopL wr b rs k f) (hk : k < rs.length) (hb2 : Below wr.heap.size wr w2) (hbw : b < wr.heap.size) {qa : Option Addr} {qc : Nat} (ho : OwnN w2 wr.heap.size (.slice qa rs[k].m.length qc) rs[k].m) :
    CopL (w2.setCell ⟨b, k, none⟩ (.slice qa rs[k].m.length qc)) b rs (k + 1) (putG f k ⟨qa, qc, rs[k].m⟩) := by
  obtain ⟨h1, h2, h3⟩ := h
  have far : ∀ {base : Nat} {v : Value} {xs : List Int}, OwnN w2 base v xs → b < base → OwnN (w2.setCell ⟨b, k, none⟩ (.slice qa rs[k].m.length qc)) base v xs := fun {base v xs} q hb => q.far hb _
  refine ⟨?_, fun i hi hik => ?_, fun i j hi hj hij => ?_⟩
  · have r1 := (h1.below hb2).put lsCl_len hk 0 (by decide) (.slice qa rs[k].m.length qc) ⟨qa, qc, rs[k].m⟩ rfl
    simpa using r1
  · by_cases e : i = k
    · subst e
      rw [putG_same]
      exact ⟨rfl, far (ho.mono (by omega)) (by omega)⟩
    · rw [putG_ne _ _ e]
      have q := h2 i hi (by omega)
      exact ⟨q.1, far (q.2.below hb2) (by omega)⟩
  · by_cases e : j = k
    · subst e
      rw [putG_same, putG_ne _ _ (by omega)]
      have q := h2 i (by omega) (by omega)
      rcases q.2.bs.lt with h | h
      · exact .inl h
      · rcases ho.ge with h' | h'
        · exact .inr (.inl h')
        · right; right
          have e1 : blockOf (Sv idL (⟨qa, qc, rs[j].m⟩ : Nst (List Int))) = blockOf (.slice qa rs[j].m.length qc) := rfl
          rw [e1]
          omega
    · rw [putG_ne _ _ e, putG_ne _ _ (by omega)]
      exact h3 i j (by omega) (by omega) hij
/-- A row that was written is lists of ours. -/
theorem OwL.build {w : World} {lo hi b off n cap : Nat} {f : Nat → Nst (List Int)} (h : RowG 1 lsCl w b off n f) (hb : lo ≤ b) (hbl : n = 0 ∨ b < hi) (hn : n ≤ cap ∧ cap ≤ 9223372036854775807)
    (h4 : ∀ i, i < n → OwN lo hi (Sv idL (f i)) (f i).m w) (h5 : ∀ i j, i < n → j < n → i ≠ j → (f i).m = [] ∨ (f j).m = [] ∨ blockOf (Sv idL (f i)) ≠ blockOf (Sv idL (f j))) (h6 : ∀ i, i < n → (f i).m = [] ∨ blockOf (Sv idL (f i)) ≠ b) :
    OwL lo hi (.slice (some ⟨b, off, none⟩) n cap) ((List.range n).map f) w := by
  have hl : ((List.range n).map f).length = n := by simp
  have hg : ∀ i (hi : i < ((List.range n).map f).length), ((List.range n).map f)[i] = f i := fun i hi => by simp
  have o := RowG.own (es := (List.range n).map f) (base := lo) (cap := cap) h (by simp) (fun i hi => (hg i hi).symm) hb (by rw [hl]; omega) (by rw [hl]; exact hn)
  rw [hl] at o
  refine ⟨o, ?_, fun p hp => ?_, fun i j hi hj hij => ?_, fun i hi => ?_⟩
  · rcases hbl with h | h
    · subst h; exact .inl rfl
    · exact .inr h
  · obtain ⟨i, hi, rfl⟩ := List.mem_map.1 hp
    exact h4 i (List.mem_range.1 hi)
  · rw [hg, hg]
    rw [hl] at hi hj
    exact h5 i j hi hj hij
  · rw [hg]
    rw [hl] at hi
    exact h6 i hi
theorem CopL.own {w wr : World} {rs : List (Nst (List Int))} {f : Nat → Nst (List Int)} (h : CopL wr w.heap.size rs rs.length f) (hsz : w.heap.size < wr.heap.size) (hl : rs.length ≤ 9223372036854775807) : ∃ rs', rs'.map Nst.m = rs.map Nst.m ∧ OwL w.heap.size wr.heap.size (.slice (some ⟨w.heap.size, 0, none⟩) rs.length rs.length) rs' wr := by
  obtain ⟨h1, h2, h3⟩ := h
  refine ⟨(List.range rs.length).map f, ?_, OwL.build h1 (Nat.le_refl _) (.inr hsz) ⟨Nat.le_refl _, hl⟩ (fun i hi => ?_) (fun i j hi hj hij => ?_) fun i hi => ?_⟩
  · rw [List.map_map]
    exact range_map_m (ms := rs.map Nst.m) (by simp) (fun i hi => by
      have hi' : i < rs.length := by simpa using hi
      rw [List.getElem_map]
      exact (h2 i hi' hi').1)
  · have q := (h2 i hi hi).2
    exact ⟨q.mono (by omega), q.bs.lt⟩
  · rcases Nat.lt_or_gt_of_ne hij with h | h
    · exact h3 i j hi hj h
    · rcases h3 j i hj hi h with h | h | h
      · exact .inr (.inl h)
      · exact .inl h
      · exact .inr (.inr (Ne.symm h))
  · rcases (h2 i hi hi).2.ge with h | h
    · exact .inl h
    · exact .inr (by omega)
/-- Lists that lie from a block on are off the blocks below it. -/
theorem OwL.off {lo hi b : Nat} {v : Value} {rs : List (Nst (List Int))} {w : World} (h : OwL lo hi v rs w) (hb : b < lo) : Off b v rs := by
  refine ⟨?_, fun p hp => ?_⟩
  · rcases h.1.geG with h | h
    · exact .inl h
    · exact .inr (by omega)
  · rcases (h.2.2.1 p hp).1.ge with h | h
    · exact .inl h
    · exact .inr (by omega)
/-- Three lists that were made one behind the other. -/
theorem OwMend.made {B b1 b2 : Nat} {V : World} {m : Mn} {sv ev wv : Value} {rs : List (Nst (List Int))} (hr : rs.map Nst.m = m.wrote) (P : OwnN V B sv m.sealed) (p1 : m.sealed = [] ∨ blockOf sv < b1) (Q : OwnRw 4 Ent.cl V b1 ev m.seen) (q1 : m.seen = [] ∨ blockOf ev < b2) (R : OwL b2 V.heap.size wv rs V) (h1 : B ≤ b1) (h2 : b1 ≤ b2) : OwMend B V.heap.size (.agg #[.int .i64 m.bye, .int .i64 m.epoch, sv, ev, .bool m.planned, wv]) m V := by
  refine ⟨sv, ev, wv, rs, rfl, hr, ⟨P, P.bs.lt⟩, ⟨Q.mono h1, Q.lt⟩, R.wide (by omega) (Nat.le_refl _), ?_, ?_, ?_⟩
  · rcases p1 with h | h
    · exact .inl h
    · rcases Q.ge with h' | h'
      · exact .inr (.inl h')
      · exact .inr (.inr (by omega))
  · rcases p1 with h | h
    · exact .inl h
    · exact .inr (R.off (by omega))
  · rcases q1 with h | h
    · exact .inl h
    · exact .inr (R.off h)
end Go.Proofs.Ytaamipmlalplbaa
