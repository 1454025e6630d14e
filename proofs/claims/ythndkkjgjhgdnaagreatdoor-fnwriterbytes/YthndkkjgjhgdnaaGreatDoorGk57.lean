/- Several texts in one: AddA, AddB, AddY, PiA. -/
import Derived.Test.YthndkkjgjhgdnaaGreatDoorGk69
import Derived.Laws.RangeAny
import Derived.Laws.MakeOwn
import Derived.Lib.AppendStr
import Derived.Lib.OthersKept
import Derived.Laws.Strings3
import Derived.Laws.DeepStrings4
import Derived.Test.YthndkkjgjhgdnaaGreatDoorGk60
import Derived.Deep.RegionHeld3
import Derived.Deep.DeepCutAuto
namespace Go.Proofs.YthndkkjgjhgdnaaGreatDoor
open Go.ChangeShapes Go.WideShapes Go.ChangeAt Go.RowKit
set_option linter.unusedVariables false

set_option maxHeartbeats 1000000 in
theorem addNum_any (B : Nat) (b : Value) (bs : List UInt8) (x : Nat) (h : x ≤ 9223372036854775807) (w : World) (hown0 : w.ownsRow B 5 1 b bs.length (bcells bs)) (hl0 : bs.length ≤ 2199023255552) (hB : B ≤ w.heap.size) :
    Calls Tryz.prog 89 #[b, .int .i64 (x : Int)] w fun e w' => (∃ v, e = .returned v ∧ w'.ownsRow B 5 1 v (bs ++ numB x).length (bcells (bs ++ numB x))) ∧ Below B w w' := by
  obtain ⟨i0, hi, hz0, hz1, hz2⟩ := info_parts info8'
  have hx : ¬ ((x : Int) < 0) := by omega
  go_enter Tryz.func89, Tryz.ntmps89
  go_wp2
  go_loopw [0, 1] (fun o xv wr => ∃ (m : Nat) (l : List UInt8), xv = .int .i64 (m : Int) ∧ wr.ownsRow B 5 1 o (bs ++ l).length (bcells (bs ++ l)) ∧ m ≤ x ∧ Hid (NumInv x m l) ∧ Below B w wr) (fun _ xv _ => (intOf xv).toNat)
  case atStart => exact ⟨x, [], rfl, by simpa using hown0, Nat.le_refl _, NumInv.start h, Below.refl _ _⟩
  case round =>
    obtain ⟨m, l, rfl, hown, hmx, hinv, hb⟩ := hrel
    have hl8 := (dUnhide hinv).2.1
    have hlt := hown.lt
    have hla : (bs ++ l).length ≤ 2199023255552 + 8 := by simp; omega
    by_cases hm : (m : Int) < 128
    · have hfin := NumInv.done hinv (by omega)
      have hmod : ((UInt8.ofNat m).toNat : Int) = (m : Int) := by simp; omega
      have HF := dHide hfin
      have hm' : ¬ ((128 : Int) ≤ (m : Int)) := by omega
      clear hfin
      go_wp2_with (at_builtin; refine wpList_append_own _ rfl _ _ 22 rfl B 5 i0 (.int .u8 0) 1 1 Tryz.underlying22 hi hz0 hz1 hz2 rfl (by decide) _ _ _ rfl (hown.alloc _) ⟨wr.heap.size, 0, none⟩ 1 1 [.int .u8 (m : Int)] rfl rfl (one_new _ _ _) (one_cell _) ?c3 ?c4 ?c5 ?_)
      case c3 => unfold maxLen; omega
      case c4 => omega
      case c5 => have := hb.size; simp; omega
      intro v' w1 hown' hgrow _
      have hb1 : Below B w w1 := grown_below (hb.alloc (by have := hb.size; omega) _) hgrow (by have := hb.size; simp; omega) (fun k hk => (hlt k hk).1)
      have hown2 : w1.ownsRow B 5 1 v' (bs ++ numB x).length (bcells (bs ++ numB x)) := by
        rw [← dUnhide HF, ← List.append_assoc, bcells_snoc, hmod, List.length_append, List.length_append]; exact hown'
      clear hown hown' hgrow hb hlt hmod hinv HF
      go_wp2
      go_ret
      exact ⟨⟨_, rfl, hown2⟩, hb1⟩
    · have hmod : ((UInt8.ofNat (m % 128 + 128)).toNat : Int) = (m : Int) % 128 + 128 := by simp; omega
      have hm' : (128 : Int) ≤ (m : Int) := by omega
      go_wp2_with (at_builtin; refine wpList_append_own _ rfl _ _ 22 rfl B 5 i0 (.int .u8 0) 1 1 Tryz.underlying22 hi hz0 hz1 hz2 rfl (by decide) _ _ _ rfl (hown.alloc _) ⟨wr.heap.size, 0, none⟩ 1 1 [.int .u8 ((m : Int) % 128 + 128)] rfl rfl (one_new _ _ _) (one_cell _) ?c3 ?c4 ?c5 ?_)
      case c3 => unfold maxLen; omega
      case c4 => omega
      case c5 => have := hb.size; simp; omega
      intro v' w1 hown' hgrow _
      have hb1 : Below B w w1 := grown_below (hb.alloc (by have := hb.size; omega) _) hgrow (by have := hb.size; simp; omega) (fun k hk => (hlt k hk).1)
      have hown2 : w1.ownsRow B 5 1 v' (bs ++ (l ++ [UInt8.ofNat (m % 128 + 128)])).length (bcells (bs ++ (l ++ [UInt8.ofNat (m % 128 + 128)]))) := by
        rw [← List.append_assoc, bcells_snoc, hmod, List.length_append, List.length_append]; exact hown'
      have hst : Hid (NumInv x (m / 128) (l ++ [UInt8.ofNat (m % 128 + 128)])) := NumInv.step hinv (by omega)
      clear hown hown' hgrow hb hlt hmod hinv hla hl8
      generalize l ++ [UInt8.ofNat (m % 128 + 128)] = l' at *
      go_wp2
      go_roundw
      case rel => exact ⟨m / 128, l', by go_num, hown2, by omega, hst, hb1⟩
      case measure => simp [intOf]; omega
end Go.Proofs.YthndkkjgjhgdnaaGreatDoor
namespace Go.Proofs.YthndkkjgjhgdnaaGreatDoor
open Go.ChangeShapes Go.WideShapes Go.ChangeAt Go.RowKit
set_option linter.unusedVariables false

theorem wide_pos (s : ByteArray) (pos : Nat) (h : pos < s.size) : 1 ≤ (Utf8.decode s pos).2 := by
  by_cases ha : (s[pos]'h).toNat < 128
  · rw [decode_ascii s pos h ha]
    exact Nat.le_refl _
  · exact (decode_high s pos h (by omega)).2
theorem own_it {w : World} {B e size n : Nat} {v : Value} {xs : List Value} {k : Nat} {s : ByteArray} {pos : Nat} (h : w.ownsRow B e size v n xs) (hk : w.heap[k]? = some (.stringIter s pos)) (pos' : Nat) : (w.iterAt k s pos').ownsRow B e size v n xs := by
  refine ⟨h.1, ?_⟩
  rcases h.2 with h0 | ⟨g, cap, cur, hv, hb, hg, rest⟩
  · exact .inl h0
  · refine .inr ⟨g, cap, cur, hv, hb, ?_, rest⟩
    rw [Lib.iterAt_other _ _ _ _ _ (fun e => by subst e; rw [hk] at hg; cases hg)]
    exact hg
theorem own_it_ne {w : World} {B e size n : Nat} {v : Value} {xs : List Value} {k : Nat} {s : ByteArray} {pos : Nat} (h : w.ownsRow B e size v n xs) (hk : w.heap[k]? = some (.stringIter s pos)) : some k ≠ v.ownBlock := by
  rcases h.2 with ⟨rfl, _⟩ | ⟨g, cap, cur, rfl, hb, hg, rest⟩
  · simp [Value.ownBlock]
  · intro e
    simp only [Value.ownBlock, Option.some.injEq] at e
    subst e
    rw [hk] at hg
    cases hg
theorem cut_cells (hd : List UInt8) (s : ByteArray) (f p : Nat) (h : f ≤ p) : bcells (hd ++ s.data.toList.take f) ++ Lib.strCells (s.extract f p) = bcells (hd ++ s.data.toList.take p) := by
  have e : (s.extract f p).data.toList = (s.data.toList.drop f).take (p - f) := by
    rw [ByteArray.data_extract, Array.toList_extract]
  have e1 : Lib.strCells (s.extract f p) = bcells ((s.data.toList.drop f).take (p - f)) := by rw [← e]; rfl
  have e2 : s.data.toList.take p = s.data.toList.take f ++ (s.data.toList.drop f).take (p - f) := by
    rw [← List.take_add, show f + (p - f) = p by omega]
  rw [e1, e2]
  simp [bcells]
theorem own_len {w : World} {B n : Nat} {v : Value} {l : List UInt8} (h : w.ownsRow B 5 1 v n (bcells l)) : w.ownsRow B 5 1 v l.length (bcells l) := by
  have e : l.length = n := by have := h.1; simpa [bcells] using this
  rw [e]; exact h
theorem cut_len (hd : List UInt8) (s : ByteArray) (f p : Nat) (h : f ≤ p) (hp : p ≤ s.size) : (hd ++ s.data.toList.take f).length + (s.extract f p).size = (hd ++ s.data.toList.take p).length := by
  have hsz : s.data.toList.length = s.size := by rw [← Lib.size_eq]
  simp only [List.length_append, List.length_take, hsz, ByteArray.size_extract]
  omega
set_option maxHeartbeats 1000000 in
theorem addText_any (B : Nat) (b : Value) (s : ByteArray) (h : s.size ≤ 1099511627776) (w : World) (hown0 : w.ownsRow B 5 1 b 0 []) (hB : B ≤ w.heap.size) :
    Calls Tryz.prog 131 #[b, .string s] w fun e w' => (∃ v, e = .returned v ∧ w'.ownsRow B 5 1 v (textB s.data.toList).length (bcells (textB s.data.toList))) ∧ Below B w w' := by
  obtain ⟨i0, hi, hz0, hz1, hz2⟩ := info_parts info8'
  have hsz : s.data.toList.length = s.size := by rw [← Lib.size_eq]
  have C := dHide (addNum_any B b [] s.size (by omega) w hown0 (by simp) hB)
  have htb : textB s.data.toList = numB s.size ++ s.data.toList.take s.size := by rw [textB, hsz, List.take_of_length_le (by omega)]
  have hn9 := numB_len s.size
  rw [htb]
  have hcl := dHide (cut_len (numB s.size) s)
  have hcc := dHide (cut_cells (numB s.size) s)
  have hlen : ∀ f, (numB s.size ++ s.data.toList.take f).length ≤ 9 + s.size := fun f => by simp only [List.length_append, List.length_take, hsz]; omega
  have HL := dHide hlen
  clear htb hsz hlen hn9
  go_enter Tryz.func131, Tryz.ntmps131
  go_wp2_with fail
  refine (dUnhide C).mono ?_
  rintro e w1 ⟨⟨v, rfl, hown1⟩, hb1⟩
  clear C hown0
  simp only [List.nil_append] at hown1
  go_wp2
  go_loopw [0, 5] (fun o fv wr => ∃ (f p : Nat), fv = .int .i64 (f : Int) ∧ wr.ownsRow B 5 1 o (numB s.size ++ s.data.toList.take f).length (bcells (numB s.size ++ s.data.toList.take f)) ∧ wr.heap[w1.heap.size]? = some (.stringIter s p) ∧ f ≤ p ∧ f ≤ s.size ∧ Below B w wr) (fun _ _ wr => s.size - wr.iterPos w1.heap.size)
  case atStart => exact ⟨0, 0, rfl, by rw [World.iter]; simpa using hown1.alloc _, World.iter_heap w1 s 0, Nat.le_refl _, Nat.zero_le _, hb1.alloc (by have := hb1.size; omega) _⟩
  case round =>
    obtain ⟨f, p, rfl, hown, hit, hfp, hfs, hb⟩ := hrel
    have hB1 := hb1.size
    by_cases hlt : p < s.size
    · have hnx : ∀ ty, (Instr.next (.pointer (some ⟨w1.heap.size, 0, none⟩)) true ty).run Tryz.prog wr = _ := fun ty => Lib.run_next_any_at wr w1.heap.size s p ty hit hlt
      have hwd := wide_pos s p hlt
      obtain ⟨R, hR⟩ : ∃ R, (Utf8.decode s p).1 = R := ⟨_, rfl⟩
      obtain ⟨K, hK⟩ : ∃ K, (Utf8.decode s p).2 = K := ⟨_, rfl⟩
      rw [hR, hK] at hnx
      rw [hK] at hwd
      have hit2 := Lib.iterAt_heap wr w1.heap.size s p (p + K) hit
      have hb2 := Lib.below_iterAt hb (k := w1.heap.size) (by omega) s (p + K)
      have hown2 := own_it hown hit (p + K)
      have hsz2 := Lib.iterAt_size wr w1.heap.size s (p + K)
      have hmea : wr.iterPos w1.heap.size = p := by simp [World.iterPos, hit]
      obtain ⟨W, hWd⟩ : ∃ W, wr.iterAt w1.heap.size s (p + K) = W := ⟨_, rfl⟩
      rw [hWd] at hnx hit2 hb2 hown2 hsz2
      have hlt2 := hown2.lt
      clear hown hit hb hWd
      have hsl : (Instr.slice 9 (.string s) (some (.int .i64 (f : Int))) (some (.int .i64 (p : Int))) none).run Tryz.prog W = .ok (.string (s.extract f p)) W := by
        have := run_slice_string_if (P := Tryz.prog) W 9 s .i64 .i64 f p Tryz.underlying9
        rw [if_pos (by omega), if_pos (by omega)] at this
        simpa using this
      have hcl' := dUnhide hcl f p hfp (by omega)
      have hcc' := dUnhide hcc f p hfp
      have hlp := dUnhide HL p
      go_wp2_with (at_builtin; refine Lib.wpList_append_own_string _ rfl _ _ 22 9 rfl B 5 i0 Tryz.underlying22 Tryz.underlying9 hi hz0 hz1 hz2 _ _ _ rfl hown2 (s.extract f p) rfl ?c3 ?c4 ?c5 ?_)
      case c3 => rw [hcl']; unfold maxLen; omega
      case c4 => rw [hcl']; omega
      case c5 => have := hb2.size; omega
      intro v' w3 hown3 hgrow _
      have hown3 := own_len hown3
      have hb3 : Below B w w3 := hb2.grown hgrow (by have := hb2.size; omega) (fun k hk => (hlt2 k hk).1)
      have hit3 : w3.heap[w1.heap.size]? = some (.stringIter s (p + K)) := (hgrow.block w1.heap.size (Array.getElem?_eq_some_iff.1 hit2).1 (own_it_ne hown2 hit2)).trans hit2
      clear hcl' hcc' hgrow hown2 hit2 hb2 hnx hsl hlt2
      go_wp2
      go_roundw
      case rel => exact ⟨p, p + K, rfl, hown3, hit3, by omega, by omega, hb3⟩
      case measure => rw [hmea]; simp [World.iterPos, hit3]; omega
    · have hnx : ∀ ty, (Instr.next (.pointer (some ⟨w1.heap.size, 0, none⟩)) true ty).run Tryz.prog wr = _ := fun ty => Lib.run_next_end_at wr w1.heap.size s p ty hit hlt
      have hlt2 := hown.lt
      have hsl : (Instr.slice 9 (.string s) (some (.int .i64 (f : Int))) none none).run Tryz.prog wr = .ok (.string (s.extract f s.size)) wr := by
        have := run_slice_string_from_if (P := Tryz.prog) wr 9 s .i64 f Tryz.underlying9
        rw [if_pos (by omega)] at this
        simpa using this
      have hcl' := dUnhide hcl f s.size hfs (Nat.le_refl _)
      have hcc' := dUnhide hcc f s.size hfs
      have hlp := dUnhide HL s.size
      go_wp2_with (at_builtin; refine Lib.wpList_append_own_string _ rfl _ _ 22 9 rfl B 5 i0 Tryz.underlying22 Tryz.underlying9 hi hz0 hz1 hz2 _ _ _ rfl hown (s.extract f s.size) rfl ?c3 ?c4 ?c5 ?_)
      case c3 => rw [hcl']; unfold maxLen; omega
      case c4 => rw [hcl']; omega
      case c5 => have := hb.size; omega
      intro v' w3 hown3 hgrow _
      have hown3 := own_len hown3
      have hb3 : Below B w w3 := hb.grown hgrow (by have := hb.size; omega) (fun k hk => (hlt2 k hk).1)
      clear hcl' hcc' hgrow hown hit hb hnx hsl hlt2
      go_wp2
      go_ret
      exact ⟨⟨_, rfl, hown3⟩, hb3⟩
end Go.Proofs.YthndkkjgjhgdnaaGreatDoor
namespace Go.Proofs.YthndkkjgjhgdnaaGreatDoor
open Go.ChangeShapes Go.WideShapes Go.ChangeAt Go.RowKit
set_option linter.unusedVariables false

set_option maxHeartbeats 1000000 in
theorem addNum_x (B : Nat) (b : Value) (bs : List UInt8) (x : Nat) (h : x ≤ 9223372036854775807) (w : World) (hown0 : OwnX w B b bs) (hl0 : bs.length ≤ 2199023255552) (hB : B ≤ w.heap.size) :
    Calls Tryz.prog 89 #[b, .int .i64 (x : Int)] w fun e w' => ∃ v, e = .returned v ∧ OwnX w' B v (bs ++ numB x) ∧ Onto w w' b v := by
  have hx : ¬ ((x : Int) < 0) := by omega
  go_enter Tryz.func89, Tryz.ntmps89
  go_wp2
  go_loopw [0, 1] (fun o xv wr => ∃ (m : Nat) (l : List UInt8), xv = .int .i64 (m : Int) ∧ OwnX wr B o (bs ++ l) ∧ m ≤ x ∧ Hid (NumInv x m l) ∧ Onto w wr b o) (fun _ xv _ => (intOf xv).toNat)
  case atStart => exact ⟨x, [], rfl, by simpa using hown0, Nat.le_refl _, NumInv.start h, Onto.refl _ _⟩
  case round =>
    obtain ⟨m, l, rfl, hown, hmx, hinv, hb⟩ := hrel
    have hl8 := (dUnhide hinv).2.1
    have hla : (bs ++ l).length ≤ 2199023255552 + 8 := by simp; omega
    by_cases hm : (m : Int) < 128
    · have hfin := NumInv.done hinv (by omega)
      have hmod : ((UInt8.ofNat m).toNat : Int) = (m : Int) := by simp; omega
      have HE : Hid ((bs ++ l) ++ [UInt8.ofNat m] = bs ++ numB x) := by rw [Hid, List.append_assoc, hfin]
      have hm' : ¬ ((128 : Int) ≤ (m : Int)) := by omega
      clear hfin
      go_wp2_with (at_builtin; refine appX _ rfl _ _ rfl B _ (bs ++ l) rfl (hown.alloc _) ⟨wr.heap.size, 0, none⟩ 1 [UInt8.ofNat m] rfl (one_byte _ _ _ _ hmod) _ (dUnhide HE) ?c3 ?c5 ?_)
      case c3 => omega
      case c5 => have := hb.1.size; simp; omega
      intro v' w1 hown' hgrow
      have hb1 := (hb.alloc _).trans hgrow
      have hown2 := hown'
      clear hown hown' hgrow hb hmod hinv HE
      go_wp2
      go_ret
      exact ⟨_, rfl, hown2, hb1⟩
    · have hmod : ((UInt8.ofNat (m % 128 + 128)).toNat : Int) = (m : Int) % 128 + 128 := by simp; omega
      have hm' : (128 : Int) ≤ (m : Int) := by omega
      obtain ⟨l', HL'⟩ : ∃ l', l ++ [UInt8.ofNat (m % 128 + 128)] = l' := ⟨_, rfl⟩
      have HE : Hid ((bs ++ l) ++ [UInt8.ofNat (m % 128 + 128)] = bs ++ l') := by rw [Hid, List.append_assoc, HL']
      have hst : Hid (NumInv x (m / 128) l') := by rw [← HL']; exact NumInv.step hinv (by omega)
      clear HL'
      go_wp2_with (at_builtin; refine appX _ rfl _ _ rfl B _ (bs ++ l) rfl (hown.alloc _) ⟨wr.heap.size, 0, none⟩ 1 [UInt8.ofNat (m % 128 + 128)] rfl (one_byte _ _ _ _ hmod) _ (dUnhide HE) ?c3 ?c5 ?_)
      case c3 => omega
      case c5 => have := hb.1.size; simp; omega
      intro v' w1 hown' hgrow
      have hb1 := (hb.alloc _).trans hgrow
      have hown2 := hown'
      clear hown hown' hgrow hb hmod hinv hla hl8
      go_wp2
      go_roundw
      case rel => exact ⟨m / 128, l', by go_num, hown2, by omega, hst, hb1⟩
      case measure => simp [intOf]; omega
theorem Onto.it {w wr : World} {b v : Value} (h : Onto w wr b v) {k : Nat} (hk : w.heap.size ≤ k) (s : ByteArray) (p : Nat) : Onto w (wr.iterAt k s p) b v :=
  ⟨⟨h.1.os, h.1.tape, h.1.output, by rw [Lib.iterAt_size]; exact h.1.size, fun j hj hn => (Lib.iterAt_other _ _ _ _ _ (by omega)).trans (h.1.block j hj hn)⟩, h.2⟩
theorem OwnX.it {w : World} {B : Nat} {v : Value} {bs : List UInt8} {k : Nat} {s : ByteArray} {pos : Nat} (h : OwnX w B v bs) (hk : w.heap[k]? = some (.stringIter s pos)) (pos' : Nat) : OwnX (w.iterAt k s pos') B v bs := by
  obtain ⟨T, h⟩ := h
  exact ⟨T, own_it h hk pos'⟩
theorem OwnX.it_ne {w : World} {B : Nat} {v : Value} {bs : List UInt8} {k : Nat} {s : ByteArray} {pos : Nat} (h : OwnX w B v bs) (hk : w.heap[k]? = some (.stringIter s pos)) : some k ≠ v.ownBlock := by
  obtain ⟨T, h⟩ := h
  exact own_it_ne h hk
theorem cut_bytes (hd : List UInt8) (s : ByteArray) (f p : Nat) (h : f ≤ p) : (hd ++ s.data.toList.take f) ++ (s.extract f p).data.toList = hd ++ s.data.toList.take p := by
  have e : (s.extract f p).data.toList = (s.data.toList.drop f).take (p - f) := by
    rw [ByteArray.data_extract, Array.toList_extract]
  rw [e, List.append_assoc, ← List.take_add, show f + (p - f) = p by omega]
set_option maxHeartbeats 1000000 in
theorem addText_x (B : Nat) (b : Value) (bs : List UInt8) (s : ByteArray) (h : s.size ≤ 1099511627776) (hl0 : bs.length ≤ 1099511627776) (w : World) (hown0 : OwnX w B b bs) (hB : B ≤ w.heap.size) :
    Calls Tryz.prog 131 #[b, .string s] w fun e w' => ∃ v, e = .returned v ∧ OwnX w' B v (bs ++ textB s.data.toList) ∧ Onto w w' b v := by
  have hsz : s.data.toList.length = s.size := by rw [← Lib.size_eq]
  have C := dHide (addNum_x B b bs s.size (by omega) w hown0 (by omega) hB)
  have htb : bs ++ textB s.data.toList = (bs ++ numB s.size) ++ s.data.toList.take s.size := by rw [textB, hsz, List.take_of_length_le (by omega), List.append_assoc]
  have hn9 := numB_len s.size
  rw [htb]
  have hhd : (bs ++ numB s.size).length ≤ 1099511627776 + 9 := by rw [List.length_append]; omega
  generalize bs ++ numB s.size = hd at *
  have hcl := dHide (cut_len hd s)
  have hcc := dHide (cut_bytes hd s)
  have hlen : ∀ f, (hd ++ s.data.toList.take f).length ≤ 1099511627776 + 9 + s.size := fun f => by simp only [List.length_append, List.length_take, hsz]; omega
  have HL := dHide hlen
  clear htb hsz hlen hn9 hhd
  go_enter Tryz.func131, Tryz.ntmps131
  go_wp2_with fail
  refine (dUnhide C).mono ?_
  rintro e w1 ⟨v, rfl, hown1, hb1⟩
  clear C hown0
  go_wp2
  go_loopw [0, 5] (fun o fv wr => ∃ (f p : Nat), fv = .int .i64 (f : Int) ∧ OwnX wr B o (hd ++ s.data.toList.take f) ∧ wr.heap[w1.heap.size]? = some (.stringIter s p) ∧ f ≤ p ∧ f ≤ s.size ∧ Onto w wr b o) (fun _ _ wr => s.size - wr.iterPos w1.heap.size)
  case atStart => exact ⟨0, 0, rfl, by rw [World.iter]; simpa using hown1.alloc _, World.iter_heap w1 s 0, Nat.le_refl _, Nat.zero_le _, by rw [World.iter]; exact hb1.alloc _⟩
  case round =>
    obtain ⟨f, p, rfl, hown, hit, hfp, hfs, hb⟩ := hrel
    have hB1 := hb1.1.size
    by_cases hlt : p < s.size
    · have hnx : ∀ ty, (Instr.next (.pointer (some ⟨w1.heap.size, 0, none⟩)) true ty).run Tryz.prog wr = _ := fun ty => Lib.run_next_any_at wr w1.heap.size s p ty hit hlt
      have hwd := wide_pos s p hlt
      obtain ⟨R, hR⟩ : ∃ R, (Utf8.decode s p).1 = R := ⟨_, rfl⟩
      obtain ⟨K, hK⟩ : ∃ K, (Utf8.decode s p).2 = K := ⟨_, rfl⟩
      rw [hR, hK] at hnx
      rw [hK] at hwd
      have hit2 := Lib.iterAt_heap wr w1.heap.size s p (p + K) hit
      have hb2 := hb.it (k := w1.heap.size) (by omega) s (p + K)
      have hown2 := hown.it hit (p + K)
      have hsz2 := Lib.iterAt_size wr w1.heap.size s (p + K)
      have hmea : wr.iterPos w1.heap.size = p := by simp [World.iterPos, hit]
      obtain ⟨W, hWd⟩ : ∃ W, wr.iterAt w1.heap.size s (p + K) = W := ⟨_, rfl⟩
      rw [hWd] at hnx hit2 hb2 hown2 hsz2
      clear hown hit hb hWd
      have hsl : (Instr.slice 9 (.string s) (some (.int .i64 (f : Int))) (some (.int .i64 (p : Int))) none).run Tryz.prog W = .ok (.string (s.extract f p)) W := by
        have := run_slice_string_if (P := Tryz.prog) W 9 s .i64 .i64 f p Tryz.underlying9
        rw [if_pos (by omega), if_pos (by omega)] at this
        simpa using this
      have hcl' := dUnhide hcl f p hfp (by omega)
      have hcc' := dHide (dUnhide hcc f p hfp)
      have hlp := dUnhide HL p
      go_wp2_with (at_builtin; refine appXs _ rfl _ _ rfl B _ (hd ++ s.data.toList.take f) rfl hown2 (s.extract f p) rfl (hd ++ s.data.toList.take p) (dUnhide hcc') ?c4 ?c5 ?_)
      case c4 => rw [hcl']; omega
      case c5 => have := hb2.1.size; omega
      intro v' w3 hown3 hgrow
      have hb3 := hb2.trans hgrow
      have hit3 : w3.heap[w1.heap.size]? = some (.stringIter s (p + K)) := (hgrow.1.block w1.heap.size (Array.getElem?_eq_some_iff.1 hit2).1 (hown2.it_ne hit2)).trans hit2
      clear hcl' hcc' hgrow hown2 hit2 hb2 hnx hsl
      go_wp2
      go_roundw
      case rel => exact ⟨p, p + K, rfl, hown3, hit3, by omega, by omega, hb3⟩
      case measure => rw [hmea]; simp [World.iterPos, hit3]; omega
    · have hnx : ∀ ty, (Instr.next (.pointer (some ⟨w1.heap.size, 0, none⟩)) true ty).run Tryz.prog wr = _ := fun ty => Lib.run_next_end_at wr w1.heap.size s p ty hit hlt
      have hsl : (Instr.slice 9 (.string s) (some (.int .i64 (f : Int))) none none).run Tryz.prog wr = .ok (.string (s.extract f s.size)) wr := by
        have := run_slice_string_from_if (P := Tryz.prog) wr 9 s .i64 f Tryz.underlying9
        rw [if_pos (by omega)] at this
        simpa using this
      have hcl' := dUnhide hcl f s.size hfs (Nat.le_refl _)
      have hcc' := dHide (dUnhide hcc f s.size hfs)
      have hlp := dUnhide HL s.size
      go_wp2_with (at_builtin; refine appXs _ rfl _ _ rfl B _ (hd ++ s.data.toList.take f) rfl hown (s.extract f s.size) rfl (hd ++ s.data.toList.take s.size) (dUnhide hcc') ?c4 ?c5 ?_)
      case c4 => rw [hcl']; omega
      case c5 => have := hb.1.size; omega
      intro v' w3 hown3 hgrow
      have hb3 := hb.trans hgrow
      clear hcl' hcc' hgrow hown hit hb hnx hsl
      go_wp2
      go_ret
      exact ⟨_, rfl, hown3, hb3⟩
end Go.Proofs.YthndkkjgjhgdnaaGreatDoor
namespace Go.Proofs.YthndkkjgjhgdnaaGreatDoor
open Go.ChangeShapes Go.WideShapes Go.ChangeAt Go.RowKit
set_option linter.unusedVariables false
set_option linter.unusedSimpArgs false
set_option maxRecDepth 100000

/-- What an adder leaves, seen from a world w0 below whose B nothing turns. -/
theorem Onto.at {w0 w w' : World} {B : Nat} {b v : Value} {bs : List UInt8} (h : Onto w w' b v) (hO : OwnX w B b bs) (h0 : Below B w0 w) (hB : B ≤ w.heap.size) : Below B w0 w' ∧ B ≤ w'.heap.size :=
  ⟨h.below (fun k hk => (hO.lt k hk).1) h0 hB, Nat.le_trans hB h.1.size⟩
set_option maxHeartbeats 2000000 in
theorem addListI_x (B : Nat) (w0 : World) (b : Value) (bs : List UInt8) (lv : Value) (xs : List Int) (h0 : natI xs) (hl : xs.length ≤ 1048576) (hbs : bs.length ≤ 1099511627776) (HV : ∀ W, Below B w0 W → Ns W lv xs) (w : World) (hb0 : Below B w0 w) (hown0 : OwnX w B b bs) (hB : B ≤ w.heap.size) :
    Calls Tryz.prog 121 #[b, lv, .func (.func 89) #[] #[]] w fun e w' => ∃ v, e = .returned v ∧ OwnX w' B v (bs ++ lstB xs) ∧ Onto w w' b v := by
  have HV := dHide HV
  obtain ⟨-, a, cap, rfl, -, -⟩ := dUnhide HV w hb0
  have C := dHide (addNum_x B b bs xs.length (by omega) w hown0 (by omega) hB)
  have n9 := numB_len xs.length
  have ES : Hid (bs ++ lstB xs = (bs ++ numB xs.length) ++ numsB xs) := by rw [Hid, lstB, List.append_assoc]
  have hhd : (bs ++ numB xs.length).length ≤ 1099511627776 + 9 := by rw [List.length_append]; omega
  generalize bs ++ numB xs.length = hd at *
  go_enter Tryz.func121, Tryz.ntmps121
  go_wp2_with fail
  refine (dUnhide C).mono ?_
  rintro e w1 ⟨v1, rfl, O1, T1⟩
  have B1 := T1.at hown0 hb0 hB
  clear C n9 hown0 hb0
  go_wp2
  go_loopw [0, 15] (fun o xv wr => ∃ k : Nat, xv = .int .i64 (k : Int) ∧ k ≤ xs.length ∧ OwnX wr B o (hd ++ numsB (xs.take k)) ∧ Onto w wr b o ∧ Below B w0 wr ∧ B ≤ wr.heap.size) (fun _ xv _ => xs.length - (intOf xv).toNat)
  case atStart => exact ⟨0, rfl, Nat.zero_le _, by simpa [numsB] using O1, T1, B1.1, B1.2⟩
  case round =>
    clear O1 T1 B1
    obtain ⟨k, rfl, hk, ho, ht, hb, hbz⟩ := hrel
    by_cases hlt : (k : Int) < (xs.length : Int)
    · have hkl : k < xs.length := by omega
      obtain ⟨bk, off, rfl, hc⟩ := (dUnhide HV wr hb).at17 hkl
      have c0 := hc k hkl
      have hS := dHide (numsB_take xs k hkl)
      have hx0 := h0 _ (List.getElem_mem hkl)
      have hfl := numsB_len (xs.take k)
      rw [List.length_take] at hfl
      generalize xs[k] = y at *
      generalize numsB (xs.take k) = FK at *
      obtain ⟨n, rfl⟩ := Int.eq_ofNat_of_zero_le hx0.1
      rw [Int.toNat_natCast] at hS
      have CP := dHide (addNum_x B u0 (hd ++ FK) n (by omega) wr ho (by rw [List.length_append]; omega) hbz)
      have FIN : Hid (∀ v5 w5, OwnX w5 B v5 ((hd ++ FK) ++ numB n) → Onto wr w5 u0 v5 → OwnX w5 B v5 (hd ++ numsB (xs.take (k + 1))) ∧ Onto w w5 b v5 ∧ Below B w0 w5 ∧ B ≤ w5.heap.size) := fun v5 w5 h1 h2 =>
        ⟨by rw [dUnhide hS, ← List.append_assoc]; exact h1, ht.trans h2, h2.at ho hb hbz⟩
      clear hc ho ht hS hb
      go_wp2_with fail
      refine (dUnhide CP).mono ?_
      rintro e w5 ⟨v5, rfl, O5, T5⟩
      have F := dHide (dUnhide FIN v5 w5 O5 T5)
      clear O5 T5 FIN CP c0
      go_wp2
      go_roundw
      case rel => exact ⟨k + 1, by go_num, by omega, (dUnhide F).1, (dUnhide F).2.1, (dUnhide F).2.2.1, (dUnhide F).2.2.2⟩
      case measure => simp [intOf]; omega
    · have e1 : xs.take k = xs := List.take_of_length_le (by omega)
      rw [e1] at ho
      have Q := dHide (And.intro ho ht)
      clear e1 ho ht hb
      go_wp2
      go_ret
      refine ⟨_, rfl, ?_⟩
      rw [dUnhide ES]
      exact dUnhide Q
theorem textB_len (d : ByteArray) : (textB d.data.toList).length ≤ 9 + d.size := by
  have h3 := numB_len d.data.toList.length
  have h4 : d.data.toList.length = d.size := by rw [← Lib.size_eq]
  unfold textB
  rw [List.length_append]
  omega
/-- A flag's byte. -/
def flgB (f : Bool) : List UInt8 := numB (if f then 1 else 0)
theorem flgB_len (f : Bool) : (flgB f).length ≤ 9 := numB_len _
set_option maxHeartbeats 1000000 in
theorem addFlag_x (B : Nat) (b : Value) (bs : List UInt8) (f : Bool) (w : World) (hown0 : OwnX w B b bs) (hl0 : bs.length ≤ 2199023255552) (hB : B ≤ w.heap.size) :
    Calls Tryz.prog 122 #[b, .bool f] w fun e w' => ∃ v, e = .returned v ∧ OwnX w' B v (bs ++ flgB f) ∧ Onto w w' b v := by
  have C := dHide fun n : Nat => fun (h : n ≤ 1) => addNum_x B b bs n (by omega) w hown0 hl0 hB
  cases f
  · go_enter Tryz.func122, Tryz.ntmps122
    go_wp2_with fail
    refine (dUnhide C 0 (by omega)).mono ?_
    rintro e w1 ⟨v, rfl, F1, F2⟩
    have F := dHide (And.intro F1 F2)
    clear C F1 F2 hown0
    go_wp2
    go_ret
    exact ⟨_, rfl, dUnhide F⟩
  · go_enter Tryz.func122, Tryz.ntmps122
    go_wp2_with fail
    refine (dUnhide C 1 (by omega)).mono ?_
    rintro e w1 ⟨v, rfl, F1, F2⟩
    have F := dHide (And.intro F1 F2)
    clear C F1 F2 hown0
    go_wp2
    go_ret
    exact ⟨_, rfl, dUnhide F⟩
end Go.Proofs.YthndkkjgjhgdnaaGreatDoor
