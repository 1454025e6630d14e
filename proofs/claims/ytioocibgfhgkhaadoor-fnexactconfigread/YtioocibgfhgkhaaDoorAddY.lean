/- impl's addNum and addText behind bytes that are there already. -/
import Derived.Test.YtioocibgfhgkhaaDoorAddX
import Derived.Test.YtioocibgfhgkhaaDoorAddB
namespace Go.Proofs.YtioocibgfhgkhaaDoor
open Go.ChangeShapes Go.WideShapes Go.ChangeAt Go.RowKit
set_option linter.unusedVariables false

set_option maxHeartbeats 1000000 in
theorem addNum_x (B : Nat) (b : Value) (bs : List UInt8) (x : Nat) (h : x ≤ 9223372036854775807) (w : World) (hown0 : OwnX w B b bs) (hl0 : bs.length ≤ 2199023255552) (hB : B ≤ w.heap.size) :
    Calls Tryd.prog 54 #[b, .int .i64 (x : Int)] w fun e w' => ∃ v, e = .returned v ∧ OwnX w' B v (bs ++ numB x) ∧ Onto w w' b v := by
  have hx : ¬ ((x : Int) < 0) := by omega
  go_enter Tryd.func54, Tryd.ntmps54
  go_wp2
  go_loopw [0, 1] (fun o xv wr => ∃ (m : Nat) (l : List UInt8), xv = .int .i64 (m : Int) ∧ OwnX wr B o (bs ++ l) ∧ m ≤ x ∧ Hid (NumInv x m l) ∧ Onto w wr b o) (fun _ xv _ => (intOf xv).toNat)
  case atStart => exact ⟨x, [], rfl, by simpa using hown0, Nat.le_refl _, NumInv.start h, Onto.refl _ _⟩
  case round =>
    obtain ⟨m, l, rfl, hown, hmx, hinv, hb⟩ := hrel
    have hl8 := (dUnhide hinv).2.1
    have hla : (bs ++ l).length ≤ 2199023255552 + 8 := by simp; omega
    by_cases hm : (m : Int) < 128
    · have hfin := NumInv.done hinv (by omega)
      have hmod : ((UInt8.ofNat m).toNat : Int) = (m : Int) := by simp; omega
      have HE : Hid ((bs ++ l) ++ [UInt8.ofNat m] = bs ++ numB x) := by rw [Hid, List.append_assoc, hfin]
      have hm' : ¬ ((128 : Int) ≤ (m : Int)) := by omega
      clear hfin
      go_wp2_with (at_builtin; refine appX _ rfl _ _ rfl B _ (bs ++ l) rfl (hown.alloc _) ⟨wr.heap.size, 0, none⟩ 1 [UInt8.ofNat m] rfl (one_byte _ _ _ _ hmod) _ (dUnhide HE) ?c3 ?c5 ?_)
      case c3 => omega
      case c5 => have := hb.1.size; simp; omega
      intro v' w1 hown' hgrow
      have hb1 := (hb.alloc _).trans hgrow
      have hown2 := hown'
      clear hown hown' hgrow hb hmod hinv HE
      go_wp2
      go_ret
      exact ⟨_, rfl, hown2, hb1⟩
    · have hmod : ((UInt8.ofNat (m % 128 + 128)).toNat : Int) = (m : Int) % 128 + 128 := by simp; omega
      have hm' : (128 : Int) ≤ (m : Int) := by omega
      obtain ⟨l', HL'⟩ : ∃ l', l ++ [UInt8.ofNat (m % 128 + 128)] = l' := ⟨_, rfl⟩
      have HE : Hid ((bs ++ l) ++ [UInt8.ofNat (m % 128 + 128)] = bs ++ l') := by rw [Hid, List.append_assoc, HL']
      have hst : Hid (NumInv x (m / 128) l') := by rw [← HL']; exact NumInv.step hinv (by omega)
      clear HL'
      go_wp2_with (at_builtin; refine appX _ rfl _ _ rfl B _ (bs ++ l) rfl (hown.alloc _) ⟨wr.heap.size, 0, none⟩ 1 [UInt8.ofNat (m % 128 + 128)] rfl (one_byte _ _ _ _ hmod) _ (dUnhide HE) ?c3 ?c5 ?_)
      case c3 => omega
      case c5 => have := hb.1.size; simp; omega
      intro v' w1 hown' hgrow
      have hb1 := (hb.alloc _).trans hgrow
      have hown2 := hown'
      clear hown hown' hgrow hb hmod hinv hla hl8
      go_wp2
      go_roundw
      case rel => exact ⟨m / 128, l', by go_num, hown2, by omega, hst, hb1⟩
      case measure => simp [intOf]; omega
theorem Onto.it {w wr : World} {b v : Value} (h : Onto w wr b v) {k : Nat} (hk : w.heap.size ≤ k) (s : ByteArray) (p : Nat) : Onto w (wr.iterAt k s p) b v :=
  ⟨⟨h.1.os, h.1.tape, h.1.output, by rw [Lib.iterAt_size]; exact h.1.size, fun j hj hn => (Lib.iterAt_other _ _ _ _ _ (by omega)).trans (h.1.block j hj hn)⟩, h.2⟩
theorem OwnX.it {w : World} {B : Nat} {v : Value} {bs : List UInt8} {k : Nat} {s : ByteArray} {pos : Nat} (h : OwnX w B v bs) (hk : w.heap[k]? = some (.stringIter s pos)) (pos' : Nat) : OwnX (w.iterAt k s pos') B v bs := by
  obtain ⟨T, h⟩ := h
  exact ⟨T, own_it h hk pos'⟩
theorem OwnX.it_ne {w : World} {B : Nat} {v : Value} {bs : List UInt8} {k : Nat} {s : ByteArray} {pos : Nat} (h : OwnX w B v bs) (hk : w.heap[k]? = some (.stringIter s pos)) : some k ≠ v.ownBlock := by
  obtain ⟨T, h⟩ := h
  exact own_it_ne h hk
theorem cut_bytes (hd : List UInt8) (s : ByteArray) (f p : Nat) (h : f ≤ p) : (hd ++ s.data.toList.take f) ++ (s.extract f p).data.toList = hd ++ s.data.toList.take p := by
  have e : (s.extract f p).data.toList = (s.data.toList.drop f).take (p - f) := by
    rw [ByteArray.data_extract, Array.toList_extract]
  rw [e, List.append_assoc, ← List.take_add, show f + (p - f) = p by omega]
set_option maxHeartbeats 1000000 in
theorem addText_x (B : Nat) (b : Value) (bs : List UInt8) (s : ByteArray) (h : s.size ≤ 1099511627776) (hl0 : bs.length ≤ 1099511627776) (w : World) (hown0 : OwnX w B b bs) (hB : B ≤ w.heap.size) :
    Calls Tryd.prog 74 #[b, .string s] w fun e w' => ∃ v, e = .returned v ∧ OwnX w' B v (bs ++ textB s.data.toList) ∧ Onto w w' b v := by
  have hsz : s.data.toList.length = s.size := by rw [← Lib.size_eq]
  have C := dHide (addNum_x B b bs s.size (by omega) w hown0 (by omega) hB)
  have htb : bs ++ textB s.data.toList = (bs ++ numB s.size) ++ s.data.toList.take s.size := by rw [textB, hsz, List.take_of_length_le (by omega), List.append_assoc]
  have hn9 := numB_len s.size
  rw [htb]
  have hhd : (bs ++ numB s.size).length ≤ 1099511627776 + 9 := by rw [List.length_append]; omega
  generalize bs ++ numB s.size = hd at *
  have hcl := dHide (cut_len hd s)
  have hcc := dHide (cut_bytes hd s)
  have hlen : ∀ f, (hd ++ s.data.toList.take f).length ≤ 1099511627776 + 9 + s.size := fun f => by simp only [List.length_append, List.length_take, hsz]; omega
  have HL := dHide hlen
  clear htb hsz hlen hn9 hhd
  go_enter Tryd.func74, Tryd.ntmps74
  go_wp2_with fail
  refine (dUnhide C).mono ?_
  rintro e w1 ⟨v, rfl, hown1, hb1⟩
  clear C hown0
  go_wp2
  go_loopw [0, 5] (fun o fv wr => ∃ (f p : Nat), fv = .int .i64 (f : Int) ∧ OwnX wr B o (hd ++ s.data.toList.take f) ∧ wr.heap[w1.heap.size]? = some (.stringIter s p) ∧ f ≤ p ∧ f ≤ s.size ∧ Onto w wr b o) (fun _ _ wr => s.size - wr.iterPos w1.heap.size)
  case atStart => exact ⟨0, 0, rfl, by rw [World.iter]; simpa using hown1.alloc _, World.iter_heap w1 s 0, Nat.le_refl _, Nat.zero_le _, by rw [World.iter]; exact hb1.alloc _⟩
  case round =>
    obtain ⟨f, p, rfl, hown, hit, hfp, hfs, hb⟩ := hrel
    have hB1 := hb1.1.size
    by_cases hlt : p < s.size
    · have hnx : ∀ ty, (Instr.next (.pointer (some ⟨w1.heap.size, 0, none⟩)) true ty).run Tryd.prog wr = _ := fun ty => Lib.run_next_any_at wr w1.heap.size s p ty hit hlt
      have hwd := wide_pos s p hlt
      obtain ⟨R, hR⟩ : ∃ R, (Utf8.decode s p).1 = R := ⟨_, rfl⟩
      obtain ⟨K, hK⟩ : ∃ K, (Utf8.decode s p).2 = K := ⟨_, rfl⟩
      rw [hR, hK] at hnx
      rw [hK] at hwd
      have hit2 := Lib.iterAt_heap wr w1.heap.size s p (p + K) hit
      have hb2 := hb.it (k := w1.heap.size) (by omega) s (p + K)
      have hown2 := hown.it hit (p + K)
      have hsz2 := Lib.iterAt_size wr w1.heap.size s (p + K)
      have hmea : wr.iterPos w1.heap.size = p := by simp [World.iterPos, hit]
      obtain ⟨W, hWd⟩ : ∃ W, wr.iterAt w1.heap.size s (p + K) = W := ⟨_, rfl⟩
      rw [hWd] at hnx hit2 hb2 hown2 hsz2
      clear hown hit hb hWd
      have hsl : (Instr.slice 9 (.string s) (some (.int .i64 (f : Int))) (some (.int .i64 (p : Int))) none).run Tryd.prog W = .ok (.string (s.extract f p)) W := by
        have := run_slice_string_if (P := Tryd.prog) W 9 s .i64 .i64 f p Tryd.underlying9
        rw [if_pos (by omega), if_pos (by omega)] at this
        simpa using this
      have hcl' := dUnhide hcl f p hfp (by omega)
      have hcc' := dHide (dUnhide hcc f p hfp)
      have hlp := dUnhide HL p
      go_wp2_with (at_builtin; refine appXs _ rfl _ _ rfl B _ (hd ++ s.data.toList.take f) rfl hown2 (s.extract f p) rfl (hd ++ s.data.toList.take p) (dUnhide hcc') ?c4 ?c5 ?_)
      case c4 => rw [hcl']; omega
      case c5 => have := hb2.1.size; omega
      intro v' w3 hown3 hgrow
      have hb3 := hb2.trans hgrow
      have hit3 : w3.heap[w1.heap.size]? = some (.stringIter s (p + K)) := (hgrow.1.block w1.heap.size (Array.getElem?_eq_some_iff.1 hit2).1 (hown2.it_ne hit2)).trans hit2
      clear hcl' hcc' hgrow hown2 hit2 hb2 hnx hsl
      go_wp2
      go_roundw
      case rel => exact ⟨p, p + K, rfl, hown3, hit3, by omega, by omega, hb3⟩
      case measure => rw [hmea]; simp [World.iterPos, hit3]; omega
    · have hnx : ∀ ty, (Instr.next (.pointer (some ⟨w1.heap.size, 0, none⟩)) true ty).run Tryd.prog wr = _ := fun ty => Lib.run_next_end_at wr w1.heap.size s p ty hit hlt
      have hsl : (Instr.slice 9 (.string s) (some (.int .i64 (f : Int))) none none).run Tryd.prog wr = .ok (.string (s.extract f s.size)) wr := by
        have := run_slice_string_from_if (P := Tryd.prog) wr 9 s .i64 f Tryd.underlying9
        rw [if_pos (by omega)] at this
        simpa using this
      have hcl' := dUnhide hcl f s.size hfs (Nat.le_refl _)
      have hcc' := dHide (dUnhide hcc f s.size hfs)
      have hlp := dUnhide HL s.size
      go_wp2_with (at_builtin; refine appXs _ rfl _ _ rfl B _ (hd ++ s.data.toList.take f) rfl hown (s.extract f s.size) rfl (hd ++ s.data.toList.take s.size) (dUnhide hcc') ?c4 ?c5 ?_)
      case c4 => rw [hcl']; omega
      case c5 => have := hb.1.size; omega
      intro v' w3 hown3 hgrow
      have hb3 := hb.trans hgrow
      clear hcl' hcc' hgrow hown hit hb hnx hsl
      go_wp2
      go_ret
      exact ⟨_, rfl, hown3, hb3⟩
end Go.Proofs.YtioocibgfhgkhaaDoor
