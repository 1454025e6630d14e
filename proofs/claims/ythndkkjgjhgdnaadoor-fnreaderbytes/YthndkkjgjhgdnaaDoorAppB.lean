/- append on a slice of bytes of the call's own. -/
import Derived.Test.YthndkkjgjhgdnaaDoorGaA
import Derived.Laws.AppendOwn
import Derived.OwnWalk
namespace Go.Proofs.YthndkkjgjhgdnaaDoor
open Go.ChangeShapes Go.WideShapes Go.ChangeAt Go.RowKit
set_option linter.unusedVariables false

theorem info8a : (Tryd.prog.info? 5).map (fun i => (i.zero, i.size, i.bytes)) = some (some (.int .u8 0), 1, 1) := by kernel_rfl
theorem cells_one (l : List UInt8) : ∀ u ∈ bcells l, u.oneCell' = true := by
  intro u hu
  simp only [bcells, List.mem_map] at hu
  obtain ⟨c, -, rfl⟩ := hu
  rfl
/-- The kit's law on append, for bytes. -/
theorem app8 {ops : Array Oper} {rest : List Oper} {o : Oper} {a : Act} {Q : Exit → Act → World → Prop} (w : World) (hgd : o.guard = none) (s x : Operand)
    (ho : o.op = .call { callee := .builtin .append, args := #[s, x], argTypes := #[22, 22] })
    (base : Nat) (v : Value) (bs : List UInt8) (hs : a.eval s = v) (hown : w.ownsRow base 5 1 v bs.length (bcells bs))
    (ad : Addr) (m c : Nat) (cs : List UInt8) (hx : a.eval x = .slice (some ad) m c) (hl : cs.length = m) (hnews : ∀ j u, (bcells cs)[j]? = some u → w.cell? (ad.add j) = some u)
    (hb : bs.length + cs.length ≤ 1099511627776) (hbase : base ≤ w.heap.size)
    (h : ∀ v' w', w'.ownsRow base 5 1 v' (bs ++ cs).length (bcells (bs ++ cs)) → w.grownBy w' v.ownBlock → wpList Tryd.prog ops Q rest (a.put o.dst v') w') : wpList Tryd.prog ops Q (o :: rest) a w := by
  obtain ⟨i0, hi, hz0, hz1, hz2⟩ := info_parts info8a
  subst hl
  have hm : maxLen = 9223372036854775807 := rfl
  refine wpList_append_own _ hgd s x 22 ho base 5 i0 (.int .u8 0) 1 1 Tryd.underlying22 hi hz0 hz1 hz2 rfl (by decide) v bs.length (bcells bs) hs hown ad cs.length c (bcells cs) hx (by simp [bcells]) hnews (cells_one _) (by omega) (by omega) hbase ?_
  intro v' w' h1 h2 _
  refine h v' w' ?_ h2
  have e : bcells (bs ++ cs) = bcells bs ++ bcells cs := by simp [bcells]
  rw [e, List.length_append]; exact h1
/-- A block of one byte. -/
theorem one_byte (w : World) (c : UInt8) (X : Int) (T : TypeId) (h : (c.toNat : Int) = X) : ∀ j u, (bcells [c])[j]? = some u → (w.alloc (.cells #[.int .u8 X] T)).cell? ((⟨w.heap.size, 0, none⟩ : Addr).add j) = some u := by
  subst h
  intro j u hj
  match j, hj with
  | 0, hj => simp [bcells] at hj; subst hj; simp [Addr.add]
/-- Bytes in memory, as append reads them. -/
theorem src_cells {w : World} {b off : Nat} {bs : List UInt8} (hc : ∀ i (h : i < bs.length), w.cell? ⟨b, off + i, none⟩ = some (.int .u8 (bs[i].toNat : Int))) : ∀ j u, (bcells bs)[j]? = some u → w.cell? ((⟨b, off, none⟩ : Addr).add j) = some u := by
  intro j u hu
  have hj : j < bs.length := by
    rcases Nat.lt_or_ge j bs.length with h | h
    · exact h
    · rw [List.getElem?_eq_none (by simpa [bcells] using h)] at hu
      cases hu
  have e : (⟨b, off, none⟩ : Addr).add j = ⟨b, off + j, none⟩ := by unfold Addr.add; split <;> simp_all
  rw [e, hc j hj, ← hu]
  simp [bcells, hj]
theorem Drawn.grown {bk : Nat} {w0 w w' : World} {row : Option Nat} (h : Drawn bk w0 w) (hg : w.grownBy w' row) (hr : ∀ k, row = some k → w0.heap.size ≤ k) : Drawn bk w0 w' :=
  ⟨hg.os.trans h.os, hg.tape.trans h.tape, hg.output.trans h.output, Nat.le_trans h.size hg.size, fun k hk hn => (hg.block k (Nat.lt_of_lt_of_le hk h.size) (fun e => by have := hr k e.symm; omega)).trans (h.block k hk hn)⟩
theorem Drawn.row {bk : Nat} {w w' : World} (h : Drawn bk w w') : w.grownBy w' (some bk) := ⟨h.os, h.tape, h.output, h.size, fun k hk hn => h.block k hk (by rintro rfl; exact hn rfl)⟩
theorem Cur.grown {bk : Nat} {w w' : World} {row : Option Nat} (h : Cur w bk) (hg : w.grownBy w' row) (hr : ∀ k, row = some k → bk < k) : Cur w' bk := by
  obtain ⟨a, len, cap, i, hh, hr8, hn, hi, c0, c1, c2, f1, f2⟩ := h
  have lt := dCell_lt c0
  have hblk : w'.heap[bk]? = w.heap[bk]? := hg.block bk lt (fun e => by have := hr bk e.symm; omega)
  have hcell : ∀ o, w'.cell? ⟨bk, o, none⟩ = w.cell? ⟨bk, o, none⟩ := fun o => World.cell?_of_block (w := w) (w' := w') (a := ⟨bk, o, none⟩) hblk
  have hfr : ∀ o, w'.frozen? ⟨bk, o, none⟩ = w.frozen? ⟨bk, o, none⟩ := fun o => World.frozen?_of_block (w := w) (w' := w') (a := ⟨bk, o, none⟩) hblk
  refine ⟨a, len, cap, i, hh, ⟨hr8.1, ?_⟩, hn, hi, (hcell 0).trans c0, (hcell 1).trans c1, (hcell 2).trans c2, (hfr 1).trans f1, (hfr 2).trans f2⟩
  rcases hr8.2 with h0 | ⟨b, off, rfl, hc⟩
  · exact .inl h0
  · rcases Nat.eq_zero_or_pos len with h0 | h0
    · exact .inl h0
    · refine .inr ⟨b, off, rfl, fun j hj => ?_⟩
      obtain ⟨v, v1, v2, v3⟩ := hc j hj
      refine ⟨v, v1, v2, hg.cell v3 ?_⟩
      intro e
      have h1 := hr b e.symm
      have h2 := hn b off rfl h0
      omega
end Go.Proofs.YthndkkjgjhgdnaaDoor
