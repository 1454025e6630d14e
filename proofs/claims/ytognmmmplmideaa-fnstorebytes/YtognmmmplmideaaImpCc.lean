/- impl's addEntry and EntryPack. -/
import Derived.Test.YtognmmmplmideaaBuH
import Derived.Test.YtognmmmplmideaaAddY
namespace Go.Proofs.Ytognmmmplmideaa
open Go.ChangeShapes Go.WideShapes Go.ChangeAt Go.RowKit
set_option linter.unusedVariables false

theorem Four.onto {w w' : World} {k : Nat} {c0 c1 c2 c3 b v : Value} (h : Four w k c0 c1 c2 c3) (o : Onto w w' b v) (hn : b.ownBlock ≠ some k) : Four w' k c0 c1 c2 c3 :=
  ⟨o.1.cell h.1 (fun e => hn e.symm), o.1.cell h.2.1 (fun e => hn e.symm), o.1.cell h.2.2.1 (fun e => hn e.symm), o.1.cell h.2.2.2 (fun e => hn e.symm)⟩
theorem Onto.ne {w w' : World} {k : Nat} {b v : Value} (o : Onto w w' b v) (hn : b.ownBlock ≠ some k) (hk : k < w.heap.size) : v.ownBlock ≠ some k := by
  intro h
  rcases o.2 k h with h1 | h1
  · exact hn h1
  · omega
set_option maxHeartbeats 1000000 in
theorem addEntry_x (B : Nat) (b : Value) (bs : List UInt8) (n1 n2 : Nat) (h : Bool) (d : ByteArray) (h1 : n1 ≤ 9223372036854775807) (h2 : n2 ≤ 9223372036854775807) (hd : d.size ≤ 1048576) (w : World) (hown : OwnX w B b bs) (hl : bs.length ≤ 549755813888) (hB : B ≤ w.heap.size) :
    Calls Try.prog 36 #[b, .agg #[.int .i64 (n1 : Int), .int .i64 (n2 : Int), .bool h, .string d]] w fun e w' => ∃ v, e = .returned v ∧ OwnX w' B v (bs ++ packB n1 n2 h d.data.toList) ∧ Onto w w' b v := by
  have l1 := numB_len n1
  have l2 := numB_len n2
  have l3 := numB_len (bitN h)
  have hbit : bitN h ≤ 9223372036854775807 := by cases h <;> decide
  have hpk : bs ++ packB n1 n2 h d.data.toList = ((bs ++ numB n1) ++ numB n2) ++ numB (bitN h) ++ textB d.data.toList := by simp only [packB, List.append_assoc]
  rw [hpk]
  have ll1 : (bs ++ numB n1).length ≤ 549755813888 + 9 := by rw [List.length_append]; omega
  have ll2 : ((bs ++ numB n1) ++ numB n2).length ≤ 549755813888 + 18 := by rw [List.length_append]; omega
  have ll3 : (((bs ++ numB n1) ++ numB n2) ++ numB (bitN h)).length ≤ 549755813888 + 27 := by rw [List.length_append]; omega
  have hne : b.ownBlock ≠ some w.heap.size := fun e => by have := (hown.lt _ e).2; omega
  have F0 := Four.new w (.int .i64 (n1 : Int)) (.int .i64 (n2 : Int)) (.bool h) (.string d) 66
  have O0 := (Onto.refl w b).alloc (.cells #[.int .i64 (n1 : Int), .int .i64 (n2 : Int), .bool h, .string d] 66)
  have X0 := hown.alloc (.cells #[.int .i64 (n1 : Int), .int .i64 (n2 : Int), .bool h, .string d] 66)
  have s0 : w.heap.size < (w.alloc (.cells #[.int .i64 (n1 : Int), .int .i64 (n2 : Int), .bool h, .string d] 66)).heap.size := by simp
  clear hpk hown
  have HX0 := dHide X0
  have HF0 := dHide F0
  clear X0
  go_enter Try.func36, Try.ntmps36
  go_wp2_with fail
  have C1 := addNum_x B b bs n1 h1 _ (dUnhide HX0) (by omega) (by omega)
  generalize w.alloc (Obj.cells #[.int .i64 (n1 : Int), .int .i64 (n2 : Int), .bool h, .string d] 66) = w0 at *
  refine C1.mono ?_
  rintro e w1 ⟨v1, rfl, X1, o1⟩
  have F1 := (dUnhide HF0).onto o1 hne
  have hne1 := o1.ne hne s0
  have O1 := O0.trans o1
  have s1 : w.heap.size < w1.heap.size := Nat.lt_of_lt_of_le s0 o1.1.size
  have HF1 := dHide F1
  obtain ⟨k0, k1, k2, k3⟩ := F1
  have C2 := addNum_x B v1 (bs ++ numB n1) n2 h2 w1 X1 (by omega) (by omega)
  clear C1 F0 HF0 HX0 O0 o1 X1 hne
  go_wp2_with fail
  refine C2.mono ?_
  rintro e w2 ⟨v2, rfl, X2, o2⟩
  have F2 := (dUnhide HF1).onto o2 hne1
  have hne2 := o2.ne hne1 s1
  have O2 := O1.trans o2
  have s2 : w.heap.size < w2.heap.size := Nat.lt_of_lt_of_le s1 o2.1.size
  have HF2 := dHide F2
  clear C2 k0 k1 k2 k3 HF1 O1 o2 hne1
  obtain ⟨k0, k1, k2, k3⟩ := F2
  go_wp2_with fail
  refine (kind_any (n1 : Int) (n2 : Int) h d _).mono ?_
  rintro e w3 ⟨rfl, b3⟩
  have F3 := (dUnhide HF2).kept b3
  have O3 := O2.then_below b3
  have X3 := X2.kept b3
  have s3 : w.heap.size < w3.heap.size := Nat.lt_of_lt_of_le s2 b3.size
  have HF3 := dHide F3
  clear k0 k1 k2 k3 HF2 O2 X2 b3
  obtain ⟨k0, k1, k2, k3⟩ := F3
  have C3 := addNum_x B v2 (bs ++ numB n1 ++ numB n2) (bitN h) hbit w3 X3 (by omega) (by omega)
  go_wp2_with fail
  refine C3.mono ?_
  rintro e w4 ⟨v4, rfl, X4, o4⟩
  have F4 := (dUnhide HF3).onto o4 hne2
  have O4 := O3.trans o4
  have s4 : w.heap.size < w4.heap.size := Nat.lt_of_lt_of_le s3 o4.1.size
  clear C3 k0 k1 k2 k3 HF3 O3 o4 hne2 X3
  obtain ⟨k0, k1, k2, k3⟩ := F4
  have C4 := addText_x B v4 _ d (by omega) (by omega) w4 X4 (by omega)
  go_wp2_with fail
  refine C4.mono ?_
  rintro e w5 ⟨v5, rfl, X5, o5⟩
  have O5 := O4.trans o5
  have HX5 := dHide X5
  clear C4 X4 O4 o5 k0 k1 k2 k3 X5 ll1 ll2 ll3 l1 l2 l3
  go_wp2
  go_ret
  exact ⟨_, rfl, dUnhide HX5, O5⟩
end Go.Proofs.Ytognmmmplmideaa
