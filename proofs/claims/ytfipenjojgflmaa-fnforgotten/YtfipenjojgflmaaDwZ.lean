/- New bytes 0, and the text of them; append whose run is known. -/
import Derived.Test.YtfipenjojgflmaaGaT
import Derived.Test.YtfipenjojgflmaaDwC
import Derived.Laws.OwnMore
namespace Go.Proofs.Ytfipenjojgflmaa
open Go.ChangeShapes Go.WideShapes Go.ChangeAt Go.RowKit
set_option linter.unusedVariables false

/-- New bytes 0, and the text of them. -/
theorem zeros_new (w : World) (n : Nat) (hn : n ≤ 1000) : ∃ (W : World) (S : ByteArray), (Instr.makeSlice 22 (.int .i64 (n : Int)) (.int .i64 (n : Int))).run Try.prog w = .ok (.slice (some ⟨w.heap.size, 0, none⟩) n n) W ∧
    (convert 22 9 (.slice (some ⟨w.heap.size, 0, none⟩) n n)).run Try.prog W = .ok (.string S) W ∧ S.size = n ∧ Below w.heap.size w W := by
  obtain ⟨i0, hi, hz0, hz1, hz2⟩ := info_parts info8a
  obtain ⟨W, hmk, hown, hg⟩ := run_makeSlice_full (P := Try.prog) w w.heap.size 22 5 i0 (.int .u8 0) 1 Try.underlying22 hi hz0 hz1 .i64 .i64 n (by omega) (by rw [hz2]; omega) (by unfold maxLen; omega) (Nat.le_refl _)
  have e : (madeCells (Value.int .u8 0).cells (n * 1)).toList = bcells (List.replicate n 0) := by
    show (madeCells #[Value.int .u8 0] (n * 1)).toList = _
    rw [toList_madeCells_one, Nat.mul_one]
    simp [bcells]
  rw [e] at hown
  have ho := ownB_of_row hown
  obtain ⟨h0, a, cap, hs, hcap, h⟩ := ho
  injection hs with h1 h2 h3
  have hl : (List.replicate n (0 : UInt8)).length = n := by simp
  refine ⟨W, ⟨(List.replicate n (0 : UInt8)).toArray⟩, hmk, ?_, by show (List.replicate n (0 : UInt8)).toArray.size = n; simp, (Below.refl _ _).grown hg (Nat.le_refl _) (fun k hk => by cases hk)⟩
  rcases h with h | ⟨b, off, h, hb, hc⟩
  · obtain rfl : n = 0 := by rw [← hl, h]; rfl
    exact conv_none w.heap.size 0 0
  · rw [← h1] at h
    cases h
    have hcut := conv_cut (w := W) (b := w.heap.size) (off := 0) (p := 0) (n := n) (cap := n) (bs := List.replicate n (0 : UInt8)) (fun i hi => (hc i hi).1) (by simp)
    have et : ((List.replicate n (0 : UInt8)).drop 0).take n = List.replicate n 0 := by rw [List.drop_zero, List.take_of_length_le (by simp)]
    rw [et] at hcut
    exact hcut
theorem op_appRun {w w' : World} {o : Oper} {a : Act} {Q : Exit → Act → World → Prop} {K : Act → World → Prop} (s x : Operand) (T1 T2 : TypeId) (hop : o.op = .call { callee := .builtin .append, args := #[s, x], argTypes := #[T1, T2] })
    (v u : Value) (hs : a.eval s = v) (hx : a.eval x = u) {v' : Value} (hr : (Builtin.append_ #[T1, T2] o.type #[v, u]).run Try.prog w = .ok v' w') (h : K (a.put o.dst v') w') : Oper.wp Try.prog o a w K Q := by
  unfold Oper.wp
  simp [execOp, hop, resolve, invoke, builtin, hs, hx, hr, Result.andThen]
  exact h
theorem DE8.with_ {w W : World} {bk rb lo : Nat} {p q : Nst Wd} {ms : List Wd} {tr : Int} {a : Option Addr} {c : Nat} (h : DE8 w bk rb lo W p ms tr a c) (hq : OwnN W lo (Sv Wd.acks q) q.m.acks ∧ (q.m.acks = [] ∨ (touch (.slice a ms.length c) ≠ some (blockOf (Sv Wd.acks q)) ∧ blockOf (Sv Wd.acks q) ≠ rb))) : DE8 w bk rb lo W q ms tr a c :=
  ⟨h.cur, h.drawn, h.res, h.box, h.row, hq, h.away⟩
/-- The first word. -/
theorem DE8.first {w W : World} {bk rb lo : Nat} {p : Nst Wd} {ms : List Wd} {tr : Int} {a : Option Addr} {c : Nat} (h : DE8 w bk rb lo W p ms tr a c) (h0 : 0 < ms.length) : ∃ g q, a = some ⟨g, 0, none⟩ ∧ DE8 w bk rb lo W q ms tr a c ∧ q.m = ms[0] ∧ W.cell? ⟨g, 0, none⟩ = some (.string q.m.data) ∧ W.cell? ⟨g, 1, none⟩ = some (.slice q.a q.m.acks.length q.c) ∧ W.cell? ⟨g, 2, none⟩ = some (.bool q.m.done) := by
  obtain ⟨rs, r1, r2, r3⟩ := h.row
  have hrl : rs.length = ms.length := by rw [← r1, List.length_map]
  have hk : 0 < rs.length := by omega
  have em : rs[0].m = ms[0] := by subst r1; simp
  rcases r2 with ⟨h', -⟩ | h'
  · subst h'; simp at hk
  · have h2 : ApR 35 3 wdCl W lo (.slice a ms.length c) rs := .inr h'
    rcases h'.2 with ⟨-, h00⟩ | ⟨g, cap, cur, e, -⟩
    · omega
    · simp only [Value.slice.injEq] at e
      obtain ⟨rfl, -, rfl⟩ := e
      obtain ⟨-, a', c', e', -, hc⟩ := ApR.own elemW h2
      simp only [Value.slice.injEq] at e'
      obtain ⟨b, off, ea, -, hce⟩ := orR_of_lt hc hk
      have eb : (⟨b, off, none⟩ : Addr) = ⟨g, 0, none⟩ := by have := e'.1; rw [ea] at this; exact (Option.some.inj this).symm
      cases eb
      have q0 := hce 0 hk 0 _ rfl
      have q1 := hce 0 hk 1 _ rfl
      have q2 := hce 0 hk 2 _ rfl
      simp only [Nat.zero_add, Nat.zero_mul, Nat.add_zero, Sv] at q0 q1 q2
      exact ⟨g, rs[0], rfl, h.with_ (r3 _ (List.getElem_mem hk)), em, q0.1, q1.1, q2.1⟩
end Go.Proofs.Ytfipenjojgflmaa
