/- Several texts in one: PutA, EntB, StB. -/
import Derived.Test.YthndkkjgjhgdnaaDoorGaT
import Derived.Test.YthndkkjgjhgdnaaDoorGbE
import Derived.Test.YthndkkjgjhgdnaaDoorGk16
import Derived.Deep.RegionHeld3
import Derived.Test.YthndkkjgjhgdnaaDoorGaA
namespace Go.Proofs.YthndkkjgjhgdnaaDoor
open Go.ChangeShapes Go.WideShapes Go.ChangeAt Go.RowKit
set_option linter.unusedVariables false

/-- What PutNum answers: the number form; nothing of what is below 0. -/
def numZ (x : Int) : List UInt8 := if x < 0 then [] else numB x.toNat
theorem numZ_len (x : Int) : (numZ x).length ≤ 9 := by
  unfold numZ; split
  · simp
  · exact numB_len _
theorem specPutNum_own (x : Int) (u : x ≤ 9223372036854775807) (w : World) :
    Calls Tryd.prog 26 #[.int .i64 x] w fun e w' => (∃ v, e = .returned v ∧ OwnB w' w.heap.size v (numZ x)) ∧ Below w.heap.size w w' := by
  by_cases h : x < 0
  · refine (specPut_no x h w).mono fun e w' ⟨⟨v, h1, h2⟩, h3⟩ => ⟨⟨v, h1, ?_⟩, h3⟩
    rw [numZ, if_pos h]; exact ownB_of_row h2
  · obtain ⟨n, rfl⟩ := Int.eq_ofNat_of_zero_le (show 0 ≤ x by omega)
    refine (specPut_yes n (by omega) w).mono fun e w' ⟨⟨v, h1, h2⟩, h3⟩ => ⟨⟨v, h1, ?_⟩, h3⟩
    rw [numZ, if_neg h, Int.toNat_natCast]; exact ownB_of_row h2
theorem specPutText_own (s : ByteArray) (h : s.size ≤ 1099511627776) (w : World) :
    Calls Tryd.prog 37 #[.string s] w fun e w' => (∃ v, e = .returned v ∧ OwnB w' w.heap.size v (textB s.data.toList)) ∧ Below w.heap.size w w' :=
  (specPutText_any s h w).mono fun e w' ⟨⟨v, h1, h2⟩, h3⟩ => ⟨⟨v, h1, ownB_of_row h2⟩, h3⟩
end Go.Proofs.YthndkkjgjhgdnaaDoor
namespace Go.Proofs.YthndkkjgjhgdnaaDoor
open Go.ChangeShapes Go.WideShapes Go.ChangeAt Go.RowKit
set_option maxRecDepth 100000
set_option linter.unusedVariables false

theorem bytes_loop_len (b : ByteArray) (i : Nat) (r : List UInt8) : (ByteArray.toList.loop b i r).length = (b.size - i) + r.length := by
  induction h : b.size - i generalizing i r with
  | zero =>
    rw [ByteArray.toList.loop]
    have : ¬ i < b.size := by omega
    simp [this]
  | succ n ih =>
    rw [ByteArray.toList.loop]
    have : i < b.size := by omega
    simp [this]
    rw [ih (i+1) _ (by omega)]
    simp
    omega
theorem bytes_ne (d : ByteArray) (h : d.size ≠ 0) : d.toList.isEmpty = false := by
  have e : d.toList.length = d.size := by rw [ByteArray.toList, bytes_loop_len]; simp
  cases hd : d.toList with
  | nil => rw [hd] at e; simp at e; omega
  | cons a l => rfl
theorem bytes_nil (d : ByteArray) (h : d.size = 0) : d = ⟨#[]⟩ := by
  obtain ⟨a⟩ := d
  have : a.size = 0 := h
  congr 1
  exact Array.eq_empty_of_size_eq_zero this
/-- 1 or 0. -/
def bitN (h : Bool) : Nat := if h then 1 else 0
/-- An entry's bytes. -/
def packB (n1 n2 : Nat) (h : Bool) (d : List UInt8) : List UInt8 := numB n1 ++ numB n2 ++ numB (bitN h) ++ textB d
theorem numB_pos (x : Nat) : 0 < (numB x).length := by
  unfold numB
  by_cases h : x < 128
  · rw [numF_small h]; simp
  · rw [numF_big h]; simp
/-- append on bytes, as one step of a region that draws. -/
theorem step_app8 {ops : Array Oper} {o : Oper} {a : Act} {w : World} {K : Act → World → Prop} {Q : Exit → Act → World → Prop} {E : Prop}
    (hg : o.guard = none) (s x : Operand) (hop : o.op = .call { callee := .builtin .append, args := #[s, x], argTypes := #[22, 22] })
    (base : Nat) (v : Value) (bs : List UInt8) (hs : a.eval s = v) (hown : w.ownsRow base 5 1 v bs.length (bcells bs))
    (g m c : Nat) (cs : List UInt8) (hx : a.eval x = .slice (some ⟨g, 0, none⟩) m c) (hsrc : w.ownsRow base 5 1 (.slice (some ⟨g, 0, none⟩) m c) cs.length (bcells cs))
    (hb : bs.length + cs.length ≤ 1099511627776) (hbase : base ≤ w.heap.size)
    (h : ∀ v' w', w'.ownsRow base 5 1 v' (bs ++ cs).length (bcells (bs ++ cs)) → w.grownBy w' v.ownBlock → K (a.put o.dst v') w') :
    if Region.wanted o (yielded ops a.tmps) = true then Oper.wp Tryd.prog o a w K Q else E := by
  obtain ⟨i0, hi, hz0, hz1, hz2⟩ := info_parts info8a
  have hm : maxLen = 9223372036854775807 := rfl
  have hlen : cs.length = m := by
    rcases hsrc.2 with ⟨h0, _⟩ | ⟨g', cap, cur, h0, _⟩
    · cases h0
    · cases h0; rfl
  subst hlen
  have hw : Region.wanted o (yielded ops a.tmps) = true := by simp [Region.wanted, hg]
  rw [if_pos hw]
  obtain ⟨v', w', hrun, h1, h2, _⟩ := run_append_own (P := Tryd.prog) w base 22 o.type 5 i0 (.int .u8 0) 1 1 Tryd.underlying22 hi hz0 hz1 hz2 rfl (by decide) v bs.length (bcells bs) hown ⟨g, 0, none⟩ cs.length c (bcells cs) (by simp [bcells]) (hsrc.cells rfl) (cells_one _) (by omega) (by omega) hbase
  have h3 := h v' w' (by
    have e : bcells (bs ++ cs) = bcells bs ++ bcells cs := by simp [bcells]
    rw [e, List.length_append]; exact h1) h2
  unfold Oper.wp
  simp [execOp, hop, resolve, invoke, builtin, hs, hx, hrun, Result.andThen]
  exact h3
theorem own_mono {w : World} {B B' n : Nat} {v : Value} {l : List Value} (h : w.ownsRow B 5 1 v n l) (hB : B' ≤ B) : w.ownsRow B' 5 1 v n l := by
  refine ⟨h.1, ?_⟩
  rcases h.2 with h0 | ⟨g, cap, cur, h1, h2, h3⟩
  · exact .inl h0
  · exact .inr ⟨g, cap, cur, h1, by omega, h3⟩
theorem own_some {w : World} {B n : Nat} {v : Value} {l : List Value} (h : w.ownsRow B 5 1 v n l) (hn : 0 < n) : ∃ g cap, v = .slice (some ⟨g, 0, none⟩) n cap := by
  rcases h.2 with ⟨_, h0⟩ | ⟨g, cap, cur, h1, h2, h3⟩
  · omega
  · exact ⟨g, cap, h1⟩
theorem Below.row {w w' : World} (h : Below w.heap.size w w') (row : Option Nat) : w.grownBy w' row := ⟨h.os, h.tape, h.output, h.size, fun k hk _ => h.block k hk⟩
theorem own_kept {w w' : World} {B n : Nat} {v : Value} {l : List Value} (h : w.ownsRow B 5 1 v n l) (hg : w.grownBy w' none) : w'.ownsRow B 5 1 v n l :=
  h.kept hg (by cases v.ownBlock <;> simp)
theorem own_len8 {w : World} {B n : Nat} {v : Value} {l : List UInt8} (h : w.ownsRow B 5 1 v n (bcells l)) : w.ownsRow B 5 1 v l.length (bcells l) := by
  have e : l.length = n := by have := h.1; simpa [bcells] using this
  rw [e]; exact h
/-- spec.PutNum in whatever later world. -/
theorem put_at (n : Nat) (h : n ≤ 9223372036854775807) (w0 W : World) (hb : Below w0.heap.size w0 W) :
    Calls Tryd.prog 26 #[.int .i64 (n : Int)] W fun e w' => ∃ g cap, e = .returned (.slice (some ⟨g, 0, none⟩) (numB n).length cap) ∧ w'.ownsRow w0.heap.size 5 1 (.slice (some ⟨g, 0, none⟩) (numB n).length cap) (numB n).length (bcells (numB n)) ∧ W.grownBy w' none ∧ Below w0.heap.size w0 w' := by
  refine (specPut_yes n h W).mono fun e w' ⟨⟨v, h1, h2⟩, h3⟩ => ?_
  obtain ⟨g, cap, rfl⟩ := own_some h2 (numB_pos n)
  exact ⟨g, cap, h1, own_mono h2 hb.size, Below.row h3 none, hb.trans (h3.mono hb.size)⟩
/-- spec.PutText in whatever later world. -/
theorem putT_at (s : ByteArray) (h : s.size ≤ 1099511627776) (w0 W : World) (hb : Below w0.heap.size w0 W) :
    Calls Tryd.prog 37 #[.string s] W fun e w' => ∃ g cap, e = .returned (.slice (some ⟨g, 0, none⟩) (textB s.data.toList).length cap) ∧ w'.ownsRow w0.heap.size 5 1 (.slice (some ⟨g, 0, none⟩) (textB s.data.toList).length cap) (textB s.data.toList).length (bcells (textB s.data.toList)) ∧ W.grownBy w' none ∧ Below w0.heap.size w0 w' := by
  refine (specPutText_any s h W).mono fun e w' ⟨⟨v, h1, h2⟩, h3⟩ => ?_
  obtain ⟨g, cap, rfl⟩ := own_some h2 (by rw [textB, List.length_append]; have := numB_pos s.data.toList.length; omega)
  exact ⟨g, cap, h1, own_mono h2 hb.size, Below.row h3 none, hb.trans (h3.mono hb.size)⟩
end Go.Proofs.YthndkkjgjhgdnaaDoor
namespace Go.Proofs.YthndkkjgjhgdnaaDoor
open Go.ChangeShapes Go.WideShapes Go.ChangeAt Go.RowKit
set_option linter.unusedVariables false
set_option maxRecDepth 100000

end Go.Proofs.YthndkkjgjhgdnaaDoor
