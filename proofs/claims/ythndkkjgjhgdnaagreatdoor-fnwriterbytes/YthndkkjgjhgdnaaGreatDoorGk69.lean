/- Several texts in one: PutA, AppB, EntB, GetA, AddX, BoxQ, BsT. -/
import Derived.Test.YthndkkjgjhgdnaaGreatDoorGk83
import Derived.Test.YthndkkjgjhgdnaaGreatDoorGaA
import Derived.Laws.AppendOwn
import Derived.OwnWalk
import Derived.Test.YthndkkjgjhgdnaaGreatDoorGk62
import Derived.Deep.RegionHeld3
import Derived.Lib.AppendStr
import Derived.Lib.Strings
namespace Go.Proofs.YthndkkjgjhgdnaaGreatDoor
open Go.ChangeShapes Go.WideShapes Go.ChangeAt Go.RowKit
set_option linter.unusedVariables false

/-- What PutNum answers: the number form; nothing of what is below 0. -/
def numZ (x : Int) : List UInt8 := if x < 0 then [] else numB x.toNat
theorem numZ_len (x : Int) : (numZ x).length ≤ 9 := by
  unfold numZ; split
  · simp
  · exact numB_len _
theorem specPutNum_own (x : Int) (u : x ≤ 9223372036854775807) (w : World) :
    Calls Tryz.prog 23 #[.int .i64 x] w fun e w' => (∃ v, e = .returned v ∧ OwnB w' w.heap.size v (numZ x)) ∧ Below w.heap.size w w' := by
  by_cases h : x < 0
  · refine (specPut_no x h w).mono fun e w' ⟨⟨v, h1, h2⟩, h3⟩ => ⟨⟨v, h1, ?_⟩, h3⟩
    rw [numZ, if_pos h]; exact ownB_of_row h2
  · obtain ⟨n, rfl⟩ := Int.eq_ofNat_of_zero_le (show 0 ≤ x by omega)
    refine (specPut_yes n (by omega) w).mono fun e w' ⟨⟨v, h1, h2⟩, h3⟩ => ⟨⟨v, h1, ?_⟩, h3⟩
    rw [numZ, if_neg h, Int.toNat_natCast]; exact ownB_of_row h2
theorem specPutText_own (s : ByteArray) (h : s.size ≤ 1099511627776) (w : World) :
    Calls Tryz.prog 38 #[.string s] w fun e w' => (∃ v, e = .returned v ∧ OwnB w' w.heap.size v (textB s.data.toList)) ∧ Below w.heap.size w w' :=
  (specPutText_any s h w).mono fun e w' ⟨⟨v, h1, h2⟩, h3⟩ => ⟨⟨v, h1, ownB_of_row h2⟩, h3⟩
end Go.Proofs.YthndkkjgjhgdnaaGreatDoor
namespace Go.Proofs.YthndkkjgjhgdnaaGreatDoor
open Go.ChangeShapes Go.WideShapes Go.ChangeAt Go.RowKit
set_option linter.unusedVariables false

theorem info8a : (Tryz.prog.info? 5).map (fun i => (i.zero, i.size, i.bytes)) = some (some (.int .u8 0), 1, 1) := by kernel_rfl
theorem cells_one (l : List UInt8) : ∀ u ∈ bcells l, u.oneCell' = true := by
  intro u hu
  simp only [bcells, List.mem_map] at hu
  obtain ⟨c, -, rfl⟩ := hu
  rfl
/-- The kit's law on append, for bytes. -/
theorem app8 {ops : Array Oper} {rest : List Oper} {o : Oper} {a : Act} {Q : Exit → Act → World → Prop} (w : World) (hgd : o.guard = none) (s x : Operand)
    (ho : o.op = .call { callee := .builtin .append, args := #[s, x], argTypes := #[22, 22] })
    (base : Nat) (v : Value) (bs : List UInt8) (hs : a.eval s = v) (hown : w.ownsRow base 5 1 v bs.length (bcells bs))
    (ad : Addr) (m c : Nat) (cs : List UInt8) (hx : a.eval x = .slice (some ad) m c) (hl : cs.length = m) (hnews : ∀ j u, (bcells cs)[j]? = some u → w.cell? (ad.add j) = some u)
    (hb : bs.length + cs.length ≤ 1099511627776) (hbase : base ≤ w.heap.size)
    (h : ∀ v' w', w'.ownsRow base 5 1 v' (bs ++ cs).length (bcells (bs ++ cs)) → w.grownBy w' v.ownBlock → wpList Tryz.prog ops Q rest (a.put o.dst v') w') : wpList Tryz.prog ops Q (o :: rest) a w := by
  obtain ⟨i0, hi, hz0, hz1, hz2⟩ := info_parts info8a
  subst hl
  have hm : maxLen = 9223372036854775807 := rfl
  refine wpList_append_own _ hgd s x 22 ho base 5 i0 (.int .u8 0) 1 1 Tryz.underlying22 hi hz0 hz1 hz2 rfl (by decide) v bs.length (bcells bs) hs hown ad cs.length c (bcells cs) hx (by simp [bcells]) hnews (cells_one _) (by omega) (by omega) hbase ?_
  intro v' w' h1 h2 _
  refine h v' w' ?_ h2
  have e : bcells (bs ++ cs) = bcells bs ++ bcells cs := by simp [bcells]
  rw [e, List.length_append]; exact h1
/-- A block of one byte. -/
theorem one_byte (w : World) (c : UInt8) (X : Int) (T : TypeId) (h : (c.toNat : Int) = X) : ∀ j u, (bcells [c])[j]? = some u → (w.alloc (.cells #[.int .u8 X] T)).cell? ((⟨w.heap.size, 0, none⟩ : Addr).add j) = some u := by
  subst h
  intro j u hj
  match j, hj with
  | 0, hj => simp [bcells] at hj; subst hj; simp [Addr.add]
/-- Bytes in memory, as append reads them. -/
theorem src_cells {w : World} {b off : Nat} {bs : List UInt8} (hc : ∀ i (h : i < bs.length), w.cell? ⟨b, off + i, none⟩ = some (.int .u8 (bs[i].toNat : Int))) : ∀ j u, (bcells bs)[j]? = some u → w.cell? ((⟨b, off, none⟩ : Addr).add j) = some u := by
  intro j u hu
  have hj : j < bs.length := by
    rcases Nat.lt_or_ge j bs.length with h | h
    · exact h
    · rw [List.getElem?_eq_none (by simpa [bcells] using h)] at hu
      cases hu
  have e : (⟨b, off, none⟩ : Addr).add j = ⟨b, off + j, none⟩ := by unfold Addr.add; split <;> simp_all
  rw [e, hc j hj, ← hu]
  simp [bcells, hj]
theorem Drawn.grown {bk : Nat} {w0 w w' : World} {row : Option Nat} (h : Drawn bk w0 w) (hg : w.grownBy w' row) (hr : ∀ k, row = some k → w0.heap.size ≤ k) : Drawn bk w0 w' :=
  ⟨hg.os.trans h.os, hg.tape.trans h.tape, hg.output.trans h.output, Nat.le_trans h.size hg.size, fun k hk hn => (hg.block k (Nat.lt_of_lt_of_le hk h.size) (fun e => by have := hr k e.symm; omega)).trans (h.block k hk hn)⟩
theorem Drawn.row {bk : Nat} {w w' : World} (h : Drawn bk w w') : w.grownBy w' (some bk) := ⟨h.os, h.tape, h.output, h.size, fun k hk hn => h.block k hk (by rintro rfl; exact hn rfl)⟩
theorem Cur.grown {bk : Nat} {w w' : World} {row : Option Nat} (h : Cur w bk) (hg : w.grownBy w' row) (hr : ∀ k, row = some k → bk < k) : Cur w' bk := by
  obtain ⟨a, len, cap, i, hh, hr8, hn, hi, c0, c1, c2, f1, f2⟩ := h
  have lt := dCell_lt c0
  have hblk : w'.heap[bk]? = w.heap[bk]? := hg.block bk lt (fun e => by have := hr bk e.symm; omega)
  have hcell : ∀ o, w'.cell? ⟨bk, o, none⟩ = w.cell? ⟨bk, o, none⟩ := fun o => World.cell?_of_block (w := w) (w' := w') (a := ⟨bk, o, none⟩) hblk
  have hfr : ∀ o, w'.frozen? ⟨bk, o, none⟩ = w.frozen? ⟨bk, o, none⟩ := fun o => World.frozen?_of_block (w := w) (w' := w') (a := ⟨bk, o, none⟩) hblk
  refine ⟨a, len, cap, i, hh, ⟨hr8.1, ?_⟩, hn, hi, (hcell 0).trans c0, (hcell 1).trans c1, (hcell 2).trans c2, (hfr 1).trans f1, (hfr 2).trans f2⟩
  rcases hr8.2 with h0 | ⟨b, off, rfl, hc⟩
  · exact .inl h0
  · rcases Nat.eq_zero_or_pos len with h0 | h0
    · exact .inl h0
    · refine .inr ⟨b, off, rfl, fun j hj => ?_⟩
      obtain ⟨v, v1, v2, v3⟩ := hc j hj
      refine ⟨v, v1, v2, hg.cell v3 ?_⟩
      intro e
      have h1 := hr b e.symm
      have h2 := hn b off rfl h0
      omega
end Go.Proofs.YthndkkjgjhgdnaaGreatDoor
namespace Go.Proofs.YthndkkjgjhgdnaaGreatDoor
open Go.ChangeShapes Go.WideShapes Go.ChangeAt Go.RowKit
set_option maxRecDepth 100000
set_option linter.unusedVariables false

theorem bytes_loop_len (b : ByteArray) (i : Nat) (r : List UInt8) : (ByteArray.toList.loop b i r).length = (b.size - i) + r.length := by
  induction h : b.size - i generalizing i r with
  | zero =>
    rw [ByteArray.toList.loop]
    have : ¬ i < b.size := by omega
    simp [this]
  | succ n ih =>
    rw [ByteArray.toList.loop]
    have : i < b.size := by omega
    simp [this]
    rw [ih (i+1) _ (by omega)]
    simp
    omega
theorem bytes_ne (d : ByteArray) (h : d.size ≠ 0) : d.toList.isEmpty = false := by
  have e : d.toList.length = d.size := by rw [ByteArray.toList, bytes_loop_len]; simp
  cases hd : d.toList with
  | nil => rw [hd] at e; simp at e; omega
  | cons a l => rfl
theorem bytes_nil (d : ByteArray) (h : d.size = 0) : d = ⟨#[]⟩ := by
  obtain ⟨a⟩ := d
  have : a.size = 0 := h
  congr 1
  exact Array.eq_empty_of_size_eq_zero this
/-- 1 or 0. -/
def bitN (h : Bool) : Nat := if h then 1 else 0
theorem l3Bit_any (h : Bool) (w : World) : Calls Tryz.prog 25 #[.bool h] w fun e w' => e = .returned (.int .i64 (bitN h : Int)) ∧ w' = w := by
  cases h
  · go_enter Tryz.func25, Tryz.ntmps25
    go_wp2
    go_ret
    exact ⟨rfl, rfl⟩
  · go_enter Tryz.func25, Tryz.ntmps25
    go_wp2
    go_ret
    exact ⟨rfl, rfl⟩
/-- An entry's bytes. -/
def packB (n1 n2 : Nat) (h : Bool) (d : List UInt8) : List UInt8 := numB n1 ++ numB n2 ++ numB (bitN h) ++ textB d
theorem numB_pos (x : Nat) : 0 < (numB x).length := by
  unfold numB
  by_cases h : x < 128
  · rw [numF_small h]; simp
  · rw [numF_big h]; simp
/-- append on bytes, as one step of a region that draws. -/
theorem step_app8 {ops : Array Oper} {o : Oper} {a : Act} {w : World} {K : Act → World → Prop} {Q : Exit → Act → World → Prop} {E : Prop}
    (hg : o.guard = none) (s x : Operand) (hop : o.op = .call { callee := .builtin .append, args := #[s, x], argTypes := #[22, 22] })
    (base : Nat) (v : Value) (bs : List UInt8) (hs : a.eval s = v) (hown : w.ownsRow base 5 1 v bs.length (bcells bs))
    (g m c : Nat) (cs : List UInt8) (hx : a.eval x = .slice (some ⟨g, 0, none⟩) m c) (hsrc : w.ownsRow base 5 1 (.slice (some ⟨g, 0, none⟩) m c) cs.length (bcells cs))
    (hb : bs.length + cs.length ≤ 1099511627776) (hbase : base ≤ w.heap.size)
    (h : ∀ v' w', w'.ownsRow base 5 1 v' (bs ++ cs).length (bcells (bs ++ cs)) → w.grownBy w' v.ownBlock → K (a.put o.dst v') w') :
    if Region.wanted o (yielded ops a.tmps) = true then Oper.wp Tryz.prog o a w K Q else E := by
  obtain ⟨i0, hi, hz0, hz1, hz2⟩ := info_parts info8a
  have hm : maxLen = 9223372036854775807 := rfl
  have hlen : cs.length = m := by
    rcases hsrc.2 with ⟨h0, _⟩ | ⟨g', cap, cur, h0, _⟩
    · cases h0
    · cases h0; rfl
  subst hlen
  have hw : Region.wanted o (yielded ops a.tmps) = true := by simp [Region.wanted, hg]
  rw [if_pos hw]
  obtain ⟨v', w', hrun, h1, h2, _⟩ := run_append_own (P := Tryz.prog) w base 22 o.type 5 i0 (.int .u8 0) 1 1 Tryz.underlying22 hi hz0 hz1 hz2 rfl (by decide) v bs.length (bcells bs) hown ⟨g, 0, none⟩ cs.length c (bcells cs) (by simp [bcells]) (hsrc.cells rfl) (cells_one _) (by omega) (by omega) hbase
  have h3 := h v' w' (by
    have e : bcells (bs ++ cs) = bcells bs ++ bcells cs := by simp [bcells]
    rw [e, List.length_append]; exact h1) h2
  unfold Oper.wp
  simp [execOp, hop, resolve, invoke, builtin, hs, hx, hrun, Result.andThen]
  exact h3
theorem own_mono {w : World} {B B' n : Nat} {v : Value} {l : List Value} (h : w.ownsRow B 5 1 v n l) (hB : B' ≤ B) : w.ownsRow B' 5 1 v n l := by
  refine ⟨h.1, ?_⟩
  rcases h.2 with h0 | ⟨g, cap, cur, h1, h2, h3⟩
  · exact .inl h0
  · exact .inr ⟨g, cap, cur, h1, by omega, h3⟩
theorem own_some {w : World} {B n : Nat} {v : Value} {l : List Value} (h : w.ownsRow B 5 1 v n l) (hn : 0 < n) : ∃ g cap, v = .slice (some ⟨g, 0, none⟩) n cap := by
  rcases h.2 with ⟨_, h0⟩ | ⟨g, cap, cur, h1, h2, h3⟩
  · omega
  · exact ⟨g, cap, h1⟩
theorem Below.row {w w' : World} (h : Below w.heap.size w w') (row : Option Nat) : w.grownBy w' row := ⟨h.os, h.tape, h.output, h.size, fun k hk _ => h.block k hk⟩
theorem own_kept {w w' : World} {B n : Nat} {v : Value} {l : List Value} (h : w.ownsRow B 5 1 v n l) (hg : w.grownBy w' none) : w'.ownsRow B 5 1 v n l :=
  h.kept hg (by cases v.ownBlock <;> simp)
theorem own_len8 {w : World} {B n : Nat} {v : Value} {l : List UInt8} (h : w.ownsRow B 5 1 v n (bcells l)) : w.ownsRow B 5 1 v l.length (bcells l) := by
  have e : l.length = n := by have := h.1; simpa [bcells] using this
  rw [e]; exact h
/-- spec.PutNum in whatever later world. -/
theorem put_at (n : Nat) (h : n ≤ 9223372036854775807) (w0 W : World) (hb : Below w0.heap.size w0 W) :
    Calls Tryz.prog 23 #[.int .i64 (n : Int)] W fun e w' => ∃ g cap, e = .returned (.slice (some ⟨g, 0, none⟩) (numB n).length cap) ∧ w'.ownsRow w0.heap.size 5 1 (.slice (some ⟨g, 0, none⟩) (numB n).length cap) (numB n).length (bcells (numB n)) ∧ W.grownBy w' none ∧ Below w0.heap.size w0 w' := by
  refine (specPut_yes n h W).mono fun e w' ⟨⟨v, h1, h2⟩, h3⟩ => ?_
  obtain ⟨g, cap, rfl⟩ := own_some h2 (numB_pos n)
  exact ⟨g, cap, h1, own_mono h2 hb.size, Below.row h3 none, hb.trans (h3.mono hb.size)⟩
/-- spec.PutText in whatever later world. -/
theorem putT_at (s : ByteArray) (h : s.size ≤ 1099511627776) (w0 W : World) (hb : Below w0.heap.size w0 W) :
    Calls Tryz.prog 38 #[.string s] W fun e w' => ∃ g cap, e = .returned (.slice (some ⟨g, 0, none⟩) (textB s.data.toList).length cap) ∧ w'.ownsRow w0.heap.size 5 1 (.slice (some ⟨g, 0, none⟩) (textB s.data.toList).length cap) (textB s.data.toList).length (bcells (textB s.data.toList)) ∧ W.grownBy w' none ∧ Below w0.heap.size w0 w' := by
  refine (specPutText_any s h W).mono fun e w' ⟨⟨v, h1, h2⟩, h3⟩ => ?_
  obtain ⟨g, cap, rfl⟩ := own_some h2 (by rw [textB, List.length_append]; have := numB_pos s.data.toList.length; omega)
  exact ⟨g, cap, h1, own_mono h2 hb.size, Below.row h3 none, hb.trans (h3.mono hb.size)⟩
end Go.Proofs.YthndkkjgjhgdnaaGreatDoor
namespace Go.Proofs.YthndkkjgjhgdnaaGreatDoor
open Go.ChangeShapes Go.WideShapes Go.ChangeAt Go.RowKit
set_option linter.unusedVariables false

/-- What GetNum answers at any place. -/
def getZ (l : List UInt8) (x : Int) : Option (Nat × Nat) := if x < 0 ∨ (l.length : Int) ≤ x then none else getB (l.drop x.toNat)
/-- What GetText answers at any place. -/
def gtextZ (l : List UInt8) (x : Int) : Option (List UInt8 × Nat) := if x < 0 ∨ (l.length : Int) ≤ x then none else gtextB l x.toNat
theorem specGetNum_any (v : Value) (bs : List UInt8) (x : Int) (w : World) (hv : Bs w v bs) (hl : bs.length ≤ 1099511627776) :
    Calls Tryz.prog 65 #[v, .int .i64 x] w fun e w' => e = .returned (getT (getZ bs x) x.toNat) ∧ Below w.heap.size w w' := by
  by_cases h : x < 0 ∨ (bs.length : Int) ≤ x
  · refine (specGet_out v bs x w hv h).mono fun e w' ⟨h1, h2⟩ => ⟨?_, by rw [← h2]; exact Below.refl _ _⟩
    rw [h1, getZ, if_pos h]; rfl
  · obtain ⟨n, rfl⟩ := Int.eq_ofNat_of_zero_le (show 0 ≤ x by omega)
    refine (specGet_in v bs n w hv (by omega) (by omega)).mono fun e w' ⟨h1, h2⟩ => ⟨?_, by rw [← h2]; exact Below.refl _ _⟩
    rw [h1, getZ, if_neg h, Int.toNat_natCast]
theorem specGetText_any (v : Value) (bs : List UInt8) (x : Int) (w : World) (hv : Bs w v bs) (hl : bs.length ≤ 1099511627776) :
    Calls Tryz.prog 79 #[v, .int .i64 x] w fun e w' => e = .returned (gtextT (gtextZ bs x)) ∧ Below w.heap.size w w' := by
  by_cases h : x < 0 ∨ (bs.length : Int) ≤ x
  · refine (specGetText_out v bs x w hv h).mono fun e w' ⟨h1, h2⟩ => ⟨?_, by rw [← h2]; exact Below.refl _ _⟩
    rw [h1, gtextZ, if_pos h]
  · obtain ⟨n, rfl⟩ := Int.eq_ofNat_of_zero_le (show 0 ≤ x by omega)
    refine (specGetText_in v bs n w hv (by omega) (by omega)).mono fun e w' ⟨h1, h2⟩ => ⟨?_, by rw [← h2]; exact Below.refl _ _⟩
    rw [h1, gtextZ, if_neg h, Int.toNat_natCast]
theorem getT_form (o : Option (Nat × Nat)) (n : Nat) : ∃ (x y : Int) (b : Bool), getT o n = .tuple #[.int .i64 x, .int .i64 y, .bool b] := by
  cases o with
  | none => exact ⟨_, _, _, rfl⟩
  | some r => exact ⟨_, _, _, rfl⟩
theorem gtextT_form (o : Option (List UInt8 × Nat)) : ∃ (t : ByteArray) (y : Int) (b : Bool), gtextT o = .tuple #[.string t, .int .i64 y, .bool b] := by
  cases o with
  | none => exact ⟨_, _, _, rfl⟩
  | some r => exact ⟨_, _, _, rfl⟩
end Go.Proofs.YthndkkjgjhgdnaaGreatDoor
namespace Go.Proofs.YthndkkjgjhgdnaaGreatDoor
open Go.ChangeShapes Go.WideShapes Go.ChangeAt Go.RowKit
set_option linter.unusedVariables false

/-- The value is a slice of the bytes bs, of a block from B on that may be written whole. -/
def OwnX (w : World) (B : Nat) (v : Value) (bs : List UInt8) : Prop := ∃ T, w.ownsRow B T 1 v bs.length (bcells bs)
theorem OwnX.of_row {w : World} {B T n : Nat} {v : Value} {bs : List UInt8} (h : w.ownsRow B T 1 v n (bcells bs)) : OwnX w B v bs := by
  have e : bs.length = n := by have := h.1; simpa [bcells] using this
  exact ⟨T, by rw [e]; exact h⟩
theorem OwnX.lt {w : World} {B : Nat} {v : Value} {bs : List UInt8} (h : OwnX w B v bs) : ∀ k, v.ownBlock = some k → B ≤ k ∧ k < w.heap.size := by
  obtain ⟨T, h⟩ := h; exact h.lt
theorem OwnX.alloc {w : World} {B : Nat} {v : Value} {bs : List UInt8} (h : OwnX w B v bs) (o : Obj) : OwnX (w.alloc o) B v bs := by
  obtain ⟨T, h⟩ := h; exact ⟨T, h.alloc o⟩
theorem OwnX.kept {w w' : World} {B : Nat} {v : Value} {bs : List UInt8} (h : OwnX w B v bs) (hb : Below w.heap.size w w') : OwnX w' B v bs := by
  obtain ⟨T, h⟩ := h
  exact ⟨T, h.kept (row := none) ⟨hb.os, hb.tape, hb.output, hb.size, fun k hk _ => hb.block k hk⟩ (by cases v.ownBlock <;> simp)⟩
theorem OwnX.mono {w : World} {B B' : Nat} {v : Value} {bs : List UInt8} (h : OwnX w B v bs) (hB : B' ≤ B) : OwnX w B' v bs := by
  obtain ⟨T, h⟩ := h
  refine ⟨T, h.1, ?_⟩
  rcases h.2 with h0 | ⟨g, cap, cur, h1, h2, h3⟩
  · exact .inl h0
  · exact .inr ⟨g, cap, cur, h1, by omega, h3⟩
theorem OwnX.nil (w : World) (B : Nat) : OwnX w B (.slice none 0 0) [] := ⟨0, World.ownsRow_nil w B 0 1⟩
theorem OwnX.own {w : World} {B : Nat} {v : Value} {bs : List UInt8} (h : OwnX w B v bs) : OwnB w B v bs := by
  obtain ⟨T, h⟩ := h
  rcases h.2 with ⟨rfl, hn⟩ | ⟨g, cap, cur, rfl, hb, hg, hnc, hcm, hsz, ht⟩
  · have : bs = [] := List.length_eq_zero_iff.1 hn
    subst this
    exact ⟨by simp, none, 0, rfl, by simp, .inl rfl⟩
  · have hm : maxLen = 9223372036854775807 := rfl
    refine ⟨by omega, some ⟨g, 0, none⟩, cap, rfl, by omega, .inr ⟨g, 0, rfl, hb, fun i hi => ?_⟩⟩
    have hcur : cur.toList[i]? = some (Value.int .u8 (bs[i].toNat : Int)) := by
      have e : (cur.toList.take (bs.length * 1))[i]? = (bcells bs)[i]? := by rw [ht]
      rw [List.getElem?_take] at e
      rw [if_pos (by omega)] at e
      rw [e]
      simp [bcells, hi]
    refine ⟨?_, ?_⟩
    · simp only [World.cell?, hg]
      simpa using hcur
    · simp [World.frozen?, hg]
/-- The row with room, written on. -/
theorem OwnX.roomed {w : World} {B g cap n T : Nat} {cur : Array Value} {bs cs : List UInt8} (hn : bs.length = n) (hbg : B ≤ g) (hg : w.heap[g]? = some (.cells cur T (0, 0))) (hcm : cap ≤ maxLen) (hcs : cur.size = cap * 1) (ht : cur.toList.take (n * 1) = bcells bs) (hr : n + cs.length ≤ cap) :
    OwnX (w.setRow g (cur.toList.take n ++ bcells cs ++ cur.toList.drop (n + cs.length)).toArray) B (.slice (some ⟨g, 0, none⟩) (n + cs.length) cap) (bs ++ cs) ∧ w.grownBy (w.setRow g (cur.toList.take n ++ bcells cs ++ cur.toList.drop (n + cs.length)).toArray) (some g) := by
  have hl : (bcells cs).length = cs.length := by simp [bcells]
  have hlb : (bcells bs).length = n := by simp [bcells, hn]
  have e : bcells (bs ++ cs) = bcells bs ++ bcells cs := by simp [bcells]
  rw [Nat.mul_one] at ht
  refine ⟨⟨T, by simp [bcells], .inr ⟨g, cap, _, by rw [List.length_append, hn], hbg, setRow_heap w g cur _ T _ hg, by rw [List.length_append, hn]; exact hr, hcm, ?_, ?_⟩⟩, ⟨rfl, rfl, rfl, by simp, fun k _ hk => setRow_other w g k _ (fun e => hk (by rw [e]))⟩⟩
  · simp only [List.size_toArray, List.length_append, List.length_take, List.length_drop, Array.length_toList, hl]
    omega
  · rw [e, ht, List.length_append, hn, Nat.mul_one]
    rw [show n + cs.length = (bcells bs ++ bcells cs).length by simp [hl, hlb]]
    exact List.take_left
/-- The row that was grown. -/
theorem OwnX.grew {w : World} {B old n T : Nat} {bs cs : List UInt8} (hn : bs.length = n) (hm : n + cs.length ≤ maxLen) (hb : B ≤ w.heap.size) (row : Option Nat) :
    OwnX (w.drew.alloc (.cells ((bcells bs).toArray ++ (bcells cs).toArray ++ Builtin.zeroCells (Value.int .u8 0).cells (grownCap w (n + cs.length) old T - (n + cs.length))) T)) B (.slice (some ⟨w.heap.size, 0, none⟩) (n + cs.length) (grownCap w (n + cs.length) old T)) (bs ++ cs) ∧
      w.grownBy (w.drew.alloc (.cells ((bcells bs).toArray ++ (bcells cs).toArray ++ Builtin.zeroCells (Value.int .u8 0).cells (grownCap w (n + cs.length) old T - (n + cs.length))) T)) row := by
  have hge := grownCap_ge w (n + cs.length) old T
  have hle := grownCap_le_maxLen w (n + cs.length) old T hm
  have hl : (bcells cs).length = cs.length := by simp [bcells]
  have hlb : (bcells bs).length = n := by simp [bcells, hn]
  have e : bcells (bs ++ cs) = bcells bs ++ bcells cs := by simp [bcells]
  have z1 : (Value.int IntKind.u8 0).cells.size = 1 := rfl
  refine ⟨⟨T, by simp [bcells], .inr ⟨w.heap.size, _, _, by rw [List.length_append, hn], hb, heap_alloc_new w.drew _, by rw [List.length_append, hn]; exact hge, hle, ?_, ?_⟩⟩, ⟨rfl, rfl, rfl, by simp, fun k hk _ => by first | exact heap_alloc_old w.drew _ k hk | exact heap_alloc_old w.drew _ hk⟩⟩
  · simp only [Array.size_append, List.size_toArray, size_zeroCells, z1, hl, hlb]
    omega
  · rw [e, List.length_append, hn, Nat.mul_one]
    simp only [Array.toList_append]
    rw [show n + cs.length = (bcells bs ++ bcells cs).length by simp [hl, hlb]]
    exact List.take_left
/-- Only the block of b is turned, and v lies in it or in a new one. -/
def Onto (w w' : World) (b v : Value) : Prop := w.grownBy w' b.ownBlock ∧ ∀ k, v.ownBlock = some k → b.ownBlock = some k ∨ w.heap.size ≤ k
theorem Onto.refl (w : World) (b : Value) : Onto w w b b := ⟨⟨rfl, rfl, rfl, Nat.le_refl _, fun _ _ _ => rfl⟩, fun k h => .inl h⟩
theorem Onto.trans {w w1 w2 : World} {b v u : Value} (h : Onto w w1 b v) (k : Onto w1 w2 v u) : Onto w w2 b u := by
  refine ⟨⟨k.1.os.trans h.1.os, k.1.tape.trans h.1.tape, k.1.output.trans h.1.output, Nat.le_trans h.1.size k.1.size, fun j hj hn => ?_⟩, fun j hj => ?_⟩
  · refine (k.1.block j (Nat.lt_of_lt_of_le hj h.1.size) fun he => ?_).trans (h.1.block j hj hn)
    rcases h.2 j he.symm with h1 | h1
    · exact hn h1.symm
    · omega
  · rcases k.2 j hj with h1 | h1
    · exact h.2 j h1
    · exact .inr (Nat.le_trans h.1.size h1)
theorem Onto.alloc {w w1 : World} {b v : Value} (h : Onto w w1 b v) (o : Obj) : Onto w (w1.alloc o) b v := h.trans ⟨World.grownBy_alloc w1 o _, fun _ h => .inl h⟩
theorem Onto.then_below {w w1 w2 : World} {b v : Value} (h : Onto w w1 b v) (k : Below w1.heap.size w1 w2) : Onto w w2 b v :=
  h.trans ⟨⟨k.os, k.tape, k.output, k.size, fun j hj _ => k.block j hj⟩, fun _ h => .inl h⟩
theorem Onto.below {w0 w w' : World} {b v : Value} {B : Nat} (h : Onto w w' b v) (hb : ∀ k, b.ownBlock = some k → B ≤ k) (h0 : Below B w0 w) (hB : B ≤ w.heap.size) : Below B w0 w' := h0.grown h.1 hB hb
/-- append of bytes. -/
theorem run_appX (w : World) (B : Nat) (ty : TypeId) (v : Value) (bs : List UInt8) (hown : OwnX w B v bs) (a : Addr) (c : Nat) (cs : List UInt8) (hnews : ∀ j u, (bcells cs)[j]? = some u → w.cell? (a.add j) = some u)
    (hb : bs.length + cs.length ≤ 4398046511104) (hbase : B ≤ w.heap.size) :
    ∃ v' w', (Builtin.append_ #[22, 22] ty #[v, .slice (some a) cs.length c]).run Tryz.prog w = .ok v' w' ∧ OwnX w' B v' (bs ++ cs) ∧ Onto w w' v v' := by
  obtain ⟨i0, hi, hz0, hz1, hz2⟩ := info_parts info8a
  have hm : maxLen = 9223372036854775807 := rfl
  have hl : (bcells cs).length = cs.length := by simp [bcells]
  have e : bcells (bs ++ cs) = bcells bs ++ bcells cs := by simp [bcells]
  obtain ⟨T, h⟩ := hown
  rcases h.2 with ⟨rfl, hn⟩ | ⟨g, cap, cur, rfl, hbg, hg, hnc, hcm, hcs, ht⟩
  · obtain rfl : bs = [] := List.length_eq_zero_iff.1 hn
    obtain ⟨v', w', h1, h2, h3, _⟩ := run_append_own (P := Tryz.prog) w w.heap.size 22 ty 5 i0 (.int .u8 0) 1 1 Tryz.underlying22 hi hz0 hz1 hz2 rfl (by decide) (.slice none 0 0) 0 [] (World.ownsRow_nil _ _ _ _) a cs.length c (bcells cs) (by simp [hl]) hnews (cells_one _) (by omega) (by simp only [List.length_nil] at hb; omega) (Nat.le_refl _)
    exact ⟨v', w', h1, (OwnX.of_row (B := w.heap.size) (by simpa using h2)).mono hbase, h3, fun k hk => .inr (h2.lt k hk).1⟩
  · by_cases hroom : bs.length + cs.length ≤ cap
    · have hf := run_firstCells_some (P := Tryz.prog) w i0.size cs.length a cs.length c (bcells cs) (by rw [hl, hz1]; omega) hnews
      have hst := run_storeCells_at Tryz.prog g bs.length T (bcells cs) 0 cur w hg (by rw [hl]; omega) (cells_one _)
      simp only [Nat.add_zero, hl] at hst
      rw [hz1] at hf
      obtain ⟨k1, k2⟩ := OwnX.roomed (cs := cs) rfl hbg hg hcm hcs ht hroom
      refine ⟨_, _, ?_, k1, k2, fun k hk => .inl hk⟩
      simp [Builtin.append_, run_underlying Tryz.underlying22, sizeOf, typeInfo, hi, hz1, Builtin.lenOf, hroom, hf, Addr.add_lit, hst]
    · have hr := run_append_grow (P := Tryz.prog) w 22 ty 5 i0 (.int .u8 0) Tryz.underlying22 hi hz0 ⟨g, 0, none⟩ bs.length cap (bcells bs) (by simp [bcells, hz1]) (h.cells rfl) a cs.length c (bcells cs) (by rw [hl, hz1]; omega) hnews (by omega) (by omega) (by rw [hz2]; exact growslice_fits (by omega) (by omega))
      obtain ⟨k1, k2⟩ := OwnX.grew (w := w) (B := B) (old := cap) (T := 5) (bs := bs) (cs := cs) rfl (by omega) hbase (Value.ownBlock (.slice (some ⟨g, 0, none⟩) bs.length cap))
      exact ⟨_, _, hr, k1, k2, fun k hk => .inr (by simp only [Value.ownBlock, Option.some.injEq] at hk; omega)⟩
/-- append of a text. -/
theorem run_appXs (w : World) (B : Nat) (ty : TypeId) (v : Value) (bs : List UInt8) (hown : OwnX w B v bs) (s : ByteArray) (hb : bs.length + s.size ≤ 4398046511104) (hbase : B ≤ w.heap.size) :
    ∃ v' w', (Builtin.append_ #[22, 9] ty #[v, .string s]).run Tryz.prog w = .ok v' w' ∧ OwnX w' B v' (bs ++ s.data.toList) ∧ Onto w w' v v' := by
  obtain ⟨i0, hi, hz0, hz1, hz2⟩ := info_parts info8a
  have hm : maxLen = 9223372036854775807 := rfl
  have hsl : s.data.toList.length = s.size := by rw [← Lib.size_eq]
  have hsc : Lib.strCells s = bcells s.data.toList := rfl
  have e : bcells (bs ++ s.data.toList) = bcells bs ++ bcells s.data.toList := by simp [bcells]
  obtain ⟨T, h⟩ := hown
  rcases h.2 with ⟨rfl, hn⟩ | ⟨g, cap, cur, rfl, hbg, hg, hnc, hcm, hcs, ht⟩
  · obtain rfl : bs = [] := List.length_eq_zero_iff.1 hn
    obtain ⟨v', w', h1, h2, h3, _⟩ := Lib.run_append_own_string (P := Tryz.prog) w w.heap.size 22 9 ty 5 i0 Tryz.underlying22 Tryz.underlying9 hi hz0 hz1 hz2 (.slice none 0 0) 0 [] (World.ownsRow_nil _ _ _ _) s (by simp only [List.length_nil] at hb; omega) (by simp only [List.length_nil] at hb; omega) (Nat.le_refl _)
    exact ⟨v', w', h1, (OwnX.of_row (B := w.heap.size) (T := 5) (n := 0 + s.size) (by simpa [hsc] using h2)).mono hbase, h3, fun k hk => .inr (h2.lt k hk).1⟩
  · by_cases hroom : bs.length + s.size ≤ cap
    · have hf := Lib.run_firstCells_string (P := Tryz.prog) w 1 s
      have hst := run_storeCells_at Tryz.prog g bs.length T (Lib.strCells s) 0 cur w hg (by rw [Lib.strCells_length]; omega) (Lib.strCells_oneCell s)
      simp only [Nat.add_zero, Lib.strCells_length] at hst
      rw [← hsl] at hroom
      obtain ⟨k1, k2⟩ := OwnX.roomed (cs := s.data.toList) rfl hbg hg hcm hcs ht hroom
      rw [hsl] at hroom k1 k2
      refine ⟨_, _, ?_, k1, k2, fun k hk => .inl hk⟩
      rw [← hsc]
      simp [Builtin.append_, run_underlying Tryz.underlying22, run_underlying Tryz.underlying9, sizeOf, typeInfo, hi, hz1, Builtin.lenOf, hroom, hf, Addr.add_lit, hst]
    · have hr := Lib.run_append_grow_string (P := Tryz.prog) w 22 9 ty 5 i0 (.int .u8 0) Tryz.underlying22 Tryz.underlying9 hi hz0 ⟨g, 0, none⟩ bs.length cap (bcells bs) (by simp [bcells, hz1]) (h.cells rfl) s (by omega) (by omega) (by rw [hz2]; exact growslice_fits (by omega) (by omega))
      obtain ⟨k1, k2⟩ := OwnX.grew (w := w) (B := B) (old := cap) (T := 5) (bs := bs) (cs := s.data.toList) rfl (by omega) hbase (Value.ownBlock (.slice (some ⟨g, 0, none⟩) bs.length cap))
      rw [hsl] at k1 k2
      rw [hsc] at hr
      exact ⟨_, _, hr, k1, k2, fun k hk => .inr (by simp only [Value.ownBlock, Option.some.injEq] at hk; omega)⟩
/-- append of bytes, as the walk meets it. -/
theorem appX {ops : Array Oper} {rest : List Oper} {o : Oper} {a : Act} {Q : Exit → Act → World → Prop} (w : World) (hgd : o.guard = none) (s x : Operand)
    (ho : o.op = .call { callee := .builtin .append, args := #[s, x], argTypes := #[22, 22] })
    (B : Nat) (v : Value) (bs : List UInt8) (hs : a.eval s = v) (hown : OwnX w B v bs)
    (ad : Addr) (c : Nat) (cs : List UInt8) (hx : a.eval x = .slice (some ad) cs.length c) (hnews : ∀ j u, (bcells cs)[j]? = some u → w.cell? (ad.add j) = some u)
    (rs : List UInt8) (he : bs ++ cs = rs)
    (hb : bs.length + cs.length ≤ 4398046511104) (hbase : B ≤ w.heap.size)
    (h : ∀ v' w', OwnX w' B v' rs → Onto w w' v v' → wpList Tryz.prog ops Q rest (a.put o.dst v') w') : wpList Tryz.prog ops Q (o :: rest) a w := by
  subst he
  refine wpList_plain hgd fun K hK => ?_
  obtain ⟨v', w', hr, h2, h3⟩ := run_appX w B o.type v bs hown ad c cs hnews hb hbase
  unfold Oper.wp execOp
  simp only [ho, resolve, invoke, builtin, Sem.run_bind, Sem.run_pure, Result.andThen_ok, List.map_toArray, List.map_cons, List.map_nil, hs, hx, hr]
  exact hK _ _ (h v' w' h2 h3)
/-- append of a text, as the walk meets it. -/
theorem appXs {ops : Array Oper} {rest : List Oper} {o : Oper} {a : Act} {Q : Exit → Act → World → Prop} (w : World) (hgd : o.guard = none) (sl x : Operand)
    (ho : o.op = .call { callee := .builtin .append, args := #[sl, x], argTypes := #[22, 9] })
    (B : Nat) (v : Value) (bs : List UInt8) (hs : a.eval sl = v) (hown : OwnX w B v bs) (s : ByteArray) (hx : a.eval x = .string s) (rs : List UInt8) (he : bs ++ s.data.toList = rs)
    (hb : bs.length + s.size ≤ 4398046511104) (hbase : B ≤ w.heap.size)
    (h : ∀ v' w', OwnX w' B v' rs → Onto w w' v v' → wpList Tryz.prog ops Q rest (a.put o.dst v') w') : wpList Tryz.prog ops Q (o :: rest) a w := by
  subst he
  refine wpList_plain hgd fun K hK => ?_
  obtain ⟨v', w', hr, h2, h3⟩ := run_appXs w B o.type v bs hown s hb hbase
  unfold Oper.wp execOp
  simp only [ho, resolve, invoke, builtin, Sem.run_bind, Sem.run_pure, Result.andThen_ok, List.map_toArray, List.map_cons, List.map_nil, hs, hx, hr]
  exact hK _ _ (h v' w' h2 h3)
end Go.Proofs.YthndkkjgjhgdnaaGreatDoor
namespace Go.Proofs.YthndkkjgjhgdnaaGreatDoor
open Go.ChangeShapes Go.WideShapes Go.ChangeAt Go.RowKit
set_option linter.unusedVariables false

theorem BxZ.made {w w' : World} {B : Nat} {a b c : Value} {T : TypeId} (h : B ≤ w.heap.size) (hb : Below (w.alloc (.cells #[a, b, c] T)).heap.size (w.alloc (.cells #[a, b, c] T)) w') : BxZ w' B w.heap.size [a, b, c] :=
  (BxZ.new w [a, b, c] T h).below hb
theorem BxZ.madeD {w w' : World} {B : Nat} {a b c : Value} {T : TypeId} (h : B ≤ w.heap.size) (hb : Below (w.alloc (.cells #[a, b, c] T)).drew.heap.size (w.alloc (.cells #[a, b, c] T)).drew w') : BxZ w' B w.heap.size [a, b, c] :=
  BxZ.made (T := T) h ⟨hb.os, hb.tape, hb.output, hb.size, hb.block⟩
/-- The cells of a block, as what sits there. -/
theorem Bx.sits {w : World} {b : Nat} {v : Value} {vs : List Value} (h : Bx w b (v :: vs)) : Sits (Box b (v :: vs).toArray) b (b + 1) w := by
  refine ⟨by have := dCell_lt (h 0 v rfl); exact this, fun W hW i u hu => ?_⟩
  have e := hW b (Nat.le_refl _) (by omega)
  have hu' : (v :: vs)[i]? = some u := by simpa using hu
  rw [← h i u hu']
  exact World.cell?_of_block e
theorem Sits.setFar {P : World → Prop} {lo hi b o : Nat} {w : World} (h : Sits P lo hi w) (hb : b < lo ∨ hi ≤ b) (v : Value) : Sits P lo hi (w.setCell ⟨b, o, none⟩ v) := by
  refine ⟨by rw [World.size_setCell]; exact h.fit, fun W hW => h.all W fun k h1 h2 => (hW k h1 h2).trans ?_⟩
  exact Below.heap_setCell _ _ _ k (fun e => by simp at e; omega)
end Go.Proofs.YthndkkjgjhgdnaaGreatDoor
namespace Go.Proofs.YthndkkjgjhgdnaaGreatDoor
open Go.ChangeShapes Go.WideShapes Go.ChangeAt Go.RowKit
set_option linter.unusedVariables false
set_option linter.unusedSimpArgs false
set_option maxRecDepth 100000

theorem Bs.takeS {w : World} {a : Option Addr} {n cap k : Nat} {bs : List UInt8} (h : Bs w (.slice a n cap) bs) (hk : k ≤ bs.length) : Bs w (.slice a k cap) (bs.take k) := by
  obtain ⟨h0, a', cap', he, hcap, h⟩ := h
  cases he
  have hl : (bs.take k).length = k := by simp; omega
  refine ⟨by omega, a, cap, by rw [hl], by rw [hl]; omega, ?_⟩
  rcases h with h | ⟨b, off, rfl, hc⟩
  · exact .inl (by rw [h]; simp)
  · refine .inr ⟨b, off, rfl, fun i hi => ?_⟩
    rw [hc i (by omega)]
    simp
theorem conv_bsS {w : World} {v : Value} {bs : List UInt8} (h : Bs w v bs) (hne : 0 < bs.length) : (convert 22 9 v).run Tryz.prog w = .ok (.string ⟨bs.toArray⟩) w := by
  obtain ⟨h0, a, cap, rfl, hcap, h⟩ := h
  obtain ⟨b, off, rfl, hc⟩ := or_of_lt h hne
  have := conv_cut (w := w) (b := b) (off := off) (p := 0) (n := bs.length) (cap := cap) hc (by omega)
  simpa using this
theorem Bs.row8 {w : World} {a : Option Addr} {n cap : Nat} {bs : List UInt8} (h : Bs w (.slice a n cap) bs) : Row8 w a n := by
  obtain ⟨h0, a', cap', e, -, h⟩ := h
  cases e
  refine ⟨h0, ?_⟩
  rcases h with h | ⟨b, off, rfl, hc⟩
  · exact .inl (by rw [h]; rfl)
  · exact .inr ⟨b, off, rfl, fun i hi => ⟨_, by omega, by have := bs[i].toNat_lt; omega, hc i hi⟩⟩
end Go.Proofs.YthndkkjgjhgdnaaGreatDoor
