/- Several texts in one: AppB, BsT, BoxQ, GetA. -/
import Derived.Test.YthndkkjgjhgdnaaDoorGaA
import Derived.Laws.AppendOwn
import Derived.OwnWalk
import Derived.Test.YthndkkjgjhgdnaaDoorGaT
namespace Go.Proofs.YthndkkjgjhgdnaaDoor
open Go.ChangeShapes Go.WideShapes Go.ChangeAt Go.RowKit
set_option linter.unusedVariables false

theorem info8a : (Tryd.prog.info? 5).map (fun i => (i.zero, i.size, i.bytes)) = some (some (.int .u8 0), 1, 1) := by kernel_rfl
theorem cells_one (l : List UInt8) : ∀ u ∈ bcells l, u.oneCell' = true := by
  intro u hu
  simp only [bcells, List.mem_map] at hu
  obtain ⟨c, -, rfl⟩ := hu
  rfl
/-- The kit's law on append, for bytes. -/
theorem app8 {ops : Array Oper} {rest : List Oper} {o : Oper} {a : Act} {Q : Exit → Act → World → Prop} (w : World) (hgd : o.guard = none) (s x : Operand)
    (ho : o.op = .call { callee := .builtin .append, args := #[s, x], argTypes := #[22, 22] })
    (base : Nat) (v : Value) (bs : List UInt8) (hs : a.eval s = v) (hown : w.ownsRow base 5 1 v bs.length (bcells bs))
    (ad : Addr) (m c : Nat) (cs : List UInt8) (hx : a.eval x = .slice (some ad) m c) (hl : cs.length = m) (hnews : ∀ j u, (bcells cs)[j]? = some u → w.cell? (ad.add j) = some u)
    (hb : bs.length + cs.length ≤ 1099511627776) (hbase : base ≤ w.heap.size)
    (h : ∀ v' w', w'.ownsRow base 5 1 v' (bs ++ cs).length (bcells (bs ++ cs)) → w.grownBy w' v.ownBlock → wpList Tryd.prog ops Q rest (a.put o.dst v') w') : wpList Tryd.prog ops Q (o :: rest) a w := by
  obtain ⟨i0, hi, hz0, hz1, hz2⟩ := info_parts info8a
  subst hl
  have hm : maxLen = 9223372036854775807 := rfl
  refine wpList_append_own _ hgd s x 22 ho base 5 i0 (.int .u8 0) 1 1 Tryd.underlying22 hi hz0 hz1 hz2 rfl (by decide) v bs.length (bcells bs) hs hown ad cs.length c (bcells cs) hx (by simp [bcells]) hnews (cells_one _) (by omega) (by omega) hbase ?_
  intro v' w' h1 h2 _
  refine h v' w' ?_ h2
  have e : bcells (bs ++ cs) = bcells bs ++ bcells cs := by simp [bcells]
  rw [e, List.length_append]; exact h1
/-- A block of one byte. -/
theorem one_byte (w : World) (c : UInt8) (X : Int) (T : TypeId) (h : (c.toNat : Int) = X) : ∀ j u, (bcells [c])[j]? = some u → (w.alloc (.cells #[.int .u8 X] T)).cell? ((⟨w.heap.size, 0, none⟩ : Addr).add j) = some u := by
  subst h
  intro j u hj
  match j, hj with
  | 0, hj => simp [bcells] at hj; subst hj; simp [Addr.add]
/-- Bytes in memory, as append reads them. -/
theorem src_cells {w : World} {b off : Nat} {bs : List UInt8} (hc : ∀ i (h : i < bs.length), w.cell? ⟨b, off + i, none⟩ = some (.int .u8 (bs[i].toNat : Int))) : ∀ j u, (bcells bs)[j]? = some u → w.cell? ((⟨b, off, none⟩ : Addr).add j) = some u := by
  intro j u hu
  have hj : j < bs.length := by
    rcases Nat.lt_or_ge j bs.length with h | h
    · exact h
    · rw [List.getElem?_eq_none (by simpa [bcells] using h)] at hu
      cases hu
  have e : (⟨b, off, none⟩ : Addr).add j = ⟨b, off + j, none⟩ := by unfold Addr.add; split <;> simp_all
  rw [e, hc j hj, ← hu]
  simp [bcells, hj]
theorem Drawn.grown {bk : Nat} {w0 w w' : World} {row : Option Nat} (h : Drawn bk w0 w) (hg : w.grownBy w' row) (hr : ∀ k, row = some k → w0.heap.size ≤ k) : Drawn bk w0 w' :=
  ⟨hg.os.trans h.os, hg.tape.trans h.tape, hg.output.trans h.output, Nat.le_trans h.size hg.size, fun k hk hn => (hg.block k (Nat.lt_of_lt_of_le hk h.size) (fun e => by have := hr k e.symm; omega)).trans (h.block k hk hn)⟩
theorem Drawn.row {bk : Nat} {w w' : World} (h : Drawn bk w w') : w.grownBy w' (some bk) := ⟨h.os, h.tape, h.output, h.size, fun k hk hn => h.block k hk (by rintro rfl; exact hn rfl)⟩
theorem Cur.grown {bk : Nat} {w w' : World} {row : Option Nat} (h : Cur w bk) (hg : w.grownBy w' row) (hr : ∀ k, row = some k → bk < k) : Cur w' bk := by
  obtain ⟨a, len, cap, i, hh, hr8, hn, hi, c0, c1, c2, f1, f2⟩ := h
  have lt := dCell_lt c0
  have hblk : w'.heap[bk]? = w.heap[bk]? := hg.block bk lt (fun e => by have := hr bk e.symm; omega)
  have hcell : ∀ o, w'.cell? ⟨bk, o, none⟩ = w.cell? ⟨bk, o, none⟩ := fun o => World.cell?_of_block (w := w) (w' := w') (a := ⟨bk, o, none⟩) hblk
  have hfr : ∀ o, w'.frozen? ⟨bk, o, none⟩ = w.frozen? ⟨bk, o, none⟩ := fun o => World.frozen?_of_block (w := w) (w' := w') (a := ⟨bk, o, none⟩) hblk
  refine ⟨a, len, cap, i, hh, ⟨hr8.1, ?_⟩, hn, hi, (hcell 0).trans c0, (hcell 1).trans c1, (hcell 2).trans c2, (hfr 1).trans f1, (hfr 2).trans f2⟩
  rcases hr8.2 with h0 | ⟨b, off, rfl, hc⟩
  · exact .inl h0
  · rcases Nat.eq_zero_or_pos len with h0 | h0
    · exact .inl h0
    · refine .inr ⟨b, off, rfl, fun j hj => ?_⟩
      obtain ⟨v, v1, v2, v3⟩ := hc j hj
      refine ⟨v, v1, v2, hg.cell v3 ?_⟩
      intro e
      have h1 := hr b e.symm
      have h2 := hn b off rfl h0
      omega
end Go.Proofs.YthndkkjgjhgdnaaDoor
namespace Go.Proofs.YthndkkjgjhgdnaaDoor
open Go.ChangeShapes Go.WideShapes Go.ChangeAt Go.RowKit
set_option linter.unusedVariables false
set_option linter.unusedSimpArgs false
set_option maxRecDepth 100000

theorem Bs.takeS {w : World} {a : Option Addr} {n cap k : Nat} {bs : List UInt8} (h : Bs w (.slice a n cap) bs) (hk : k ≤ bs.length) : Bs w (.slice a k cap) (bs.take k) := by
  obtain ⟨h0, a', cap', he, hcap, h⟩ := h
  cases he
  have hl : (bs.take k).length = k := by simp; omega
  refine ⟨by omega, a, cap, by rw [hl], by rw [hl]; omega, ?_⟩
  rcases h with h | ⟨b, off, rfl, hc⟩
  · exact .inl (by rw [h]; simp)
  · refine .inr ⟨b, off, rfl, fun i hi => ?_⟩
    rw [hc i (by omega)]
    simp
theorem conv_bsS {w : World} {v : Value} {bs : List UInt8} (h : Bs w v bs) (hne : 0 < bs.length) : (convert 22 9 v).run Tryd.prog w = .ok (.string ⟨bs.toArray⟩) w := by
  obtain ⟨h0, a, cap, rfl, hcap, h⟩ := h
  obtain ⟨b, off, rfl, hc⟩ := or_of_lt h hne
  have := conv_cut (w := w) (b := b) (off := off) (p := 0) (n := bs.length) (cap := cap) hc (by omega)
  simpa using this
theorem Bs.row8 {w : World} {a : Option Addr} {n cap : Nat} {bs : List UInt8} (h : Bs w (.slice a n cap) bs) : Row8 w a n := by
  obtain ⟨h0, a', cap', e, -, h⟩ := h
  cases e
  refine ⟨h0, ?_⟩
  rcases h with h | ⟨b, off, rfl, hc⟩
  · exact .inl (by rw [h]; rfl)
  · exact .inr ⟨b, off, rfl, fun i hi => ⟨_, by omega, by have := bs[i].toNat_lt; omega, hc i hi⟩⟩
end Go.Proofs.YthndkkjgjhgdnaaDoor
namespace Go.Proofs.YthndkkjgjhgdnaaDoor
open Go.ChangeShapes Go.WideShapes Go.ChangeAt Go.RowKit
set_option linter.unusedVariables false

theorem BxZ.made {w w' : World} {B : Nat} {a b c : Value} {T : TypeId} (h : B ≤ w.heap.size) (hb : Below (w.alloc (.cells #[a, b, c] T)).heap.size (w.alloc (.cells #[a, b, c] T)) w') : BxZ w' B w.heap.size [a, b, c] :=
  (BxZ.new w [a, b, c] T h).below hb
theorem BxZ.madeD {w w' : World} {B : Nat} {a b c : Value} {T : TypeId} (h : B ≤ w.heap.size) (hb : Below (w.alloc (.cells #[a, b, c] T)).drew.heap.size (w.alloc (.cells #[a, b, c] T)).drew w') : BxZ w' B w.heap.size [a, b, c] :=
  BxZ.made (T := T) h ⟨hb.os, hb.tape, hb.output, hb.size, hb.block⟩
/-- The cells of a block, as what sits there. -/
theorem Bx.sits {w : World} {b : Nat} {v : Value} {vs : List Value} (h : Bx w b (v :: vs)) : Sits (Box b (v :: vs).toArray) b (b + 1) w := by
  refine ⟨by have := dCell_lt (h 0 v rfl); exact this, fun W hW i u hu => ?_⟩
  have e := hW b (Nat.le_refl _) (by omega)
  have hu' : (v :: vs)[i]? = some u := by simpa using hu
  rw [← h i u hu']
  exact World.cell?_of_block e
theorem Sits.setFar {P : World → Prop} {lo hi b o : Nat} {w : World} (h : Sits P lo hi w) (hb : b < lo ∨ hi ≤ b) (v : Value) : Sits P lo hi (w.setCell ⟨b, o, none⟩ v) := by
  refine ⟨by rw [World.size_setCell]; exact h.fit, fun W hW => h.all W fun k h1 h2 => (hW k h1 h2).trans ?_⟩
  exact Below.heap_setCell _ _ _ k (fun e => by simp at e; omega)
end Go.Proofs.YthndkkjgjhgdnaaDoor
namespace Go.Proofs.YthndkkjgjhgdnaaDoor
open Go.ChangeShapes Go.WideShapes Go.ChangeAt Go.RowKit
set_option linter.unusedVariables false

/-- What GetNum answers at any place. -/
def getZ (l : List UInt8) (x : Int) : Option (Nat × Nat) := if x < 0 ∨ (l.length : Int) ≤ x then none else getB (l.drop x.toNat)
/-- What GetText answers at any place. -/
def gtextZ (l : List UInt8) (x : Int) : Option (List UInt8 × Nat) := if x < 0 ∨ (l.length : Int) ≤ x then none else gtextB l x.toNat
theorem specGetNum_any (v : Value) (bs : List UInt8) (x : Int) (w : World) (hv : Bs w v bs) (hl : bs.length ≤ 1099511627776) :
    Calls Tryd.prog 51 #[v, .int .i64 x] w fun e w' => e = .returned (getT (getZ bs x) x.toNat) ∧ Below w.heap.size w w' := by
  by_cases h : x < 0 ∨ (bs.length : Int) ≤ x
  · refine (specGet_out v bs x w hv h).mono fun e w' ⟨h1, h2⟩ => ⟨?_, by rw [← h2]; exact Below.refl _ _⟩
    rw [h1, getZ, if_pos h]; rfl
  · obtain ⟨n, rfl⟩ := Int.eq_ofNat_of_zero_le (show 0 ≤ x by omega)
    refine (specGet_in v bs n w hv (by omega) (by omega)).mono fun e w' ⟨h1, h2⟩ => ⟨?_, by rw [← h2]; exact Below.refl _ _⟩
    rw [h1, getZ, if_neg h, Int.toNat_natCast]
theorem specGetText_any (v : Value) (bs : List UInt8) (x : Int) (w : World) (hv : Bs w v bs) (hl : bs.length ≤ 1099511627776) :
    Calls Tryd.prog 63 #[v, .int .i64 x] w fun e w' => e = .returned (gtextT (gtextZ bs x)) ∧ Below w.heap.size w w' := by
  by_cases h : x < 0 ∨ (bs.length : Int) ≤ x
  · refine (specGetText_out v bs x w hv h).mono fun e w' ⟨h1, h2⟩ => ⟨?_, by rw [← h2]; exact Below.refl _ _⟩
    rw [h1, gtextZ, if_pos h]
  · obtain ⟨n, rfl⟩ := Int.eq_ofNat_of_zero_le (show 0 ≤ x by omega)
    refine (specGetText_in v bs n w hv (by omega) (by omega)).mono fun e w' ⟨h1, h2⟩ => ⟨?_, by rw [← h2]; exact Below.refl _ _⟩
    rw [h1, gtextZ, if_neg h, Int.toNat_natCast]
theorem getT_form (o : Option (Nat × Nat)) (n : Nat) : ∃ (x y : Int) (b : Bool), getT o n = .tuple #[.int .i64 x, .int .i64 y, .bool b] := by
  cases o with
  | none => exact ⟨_, _, _, rfl⟩
  | some r => exact ⟨_, _, _, rfl⟩
theorem gtextT_form (o : Option (List UInt8 × Nat)) : ∃ (t : ByteArray) (y : Int) (b : Bool), gtextT o = .tuple #[.string t, .int .i64 y, .bool b] := by
  cases o with
  | none => exact ⟨_, _, _, rfl⟩
  | some r => exact ⟨_, _, _, rfl⟩
end Go.Proofs.YthndkkjgjhgdnaaDoor
