/- The walk of the law FnNums: it returns true at every argument, and writes nothing that was there. -/
import Derived.Test.YtgcdhifanhpagaaPutA
import Derived.Test.YtgcdhifanhpagaaGetA
import Derived.Test.YtgcdhifanhpagaaImplB
import Derived.Test.YtgcdhifanhpagaaDrawE
import Derived.Test.YtgcdhifanhpagaaAtB
import Derived.Test.YtgcdhifanhpagaaBytesX
import Derived.Test.YtgcdhifanhpagaaBigB
namespace Go.Proofs.Ytgcdhifanhpagaa
open Go.ChangeShapes Go.WideShapes Go.ChangeAt Go.RowKit
set_option linter.unusedVariables false

theorem numB_ne (x : Nat) : numB x ≠ [] := by
  unfold numB numF; split <;> simp
theorem textB_ne (l : List UInt8) : textB l ≠ [] := by
  unfold textB; intro h
  exact numB_ne _ (List.append_eq_nil_iff.1 h).1
theorem get_after (x : Nat) (c : UInt8) (hx : x ≤ 9223372036854775807) : getZ ([9] ++ numB x ++ [c]) 1 = some (x, (numB x).length) := by
  have hn := numB_len x
  have hl : ([9] ++ numB x ++ [c]).length = (numB x).length + 2 := by simp
  rw [getZ, if_neg (by rw [hl]; omega)]
  have e : ([9] ++ numB x ++ [c]).drop (1 : Int).toNat = numB x ++ [c] := by simp
  rw [e, getB_num x [c] hx]
theorem text_after (l : List UInt8) (c : UInt8) (hl : l.length ≤ 1000) : gtextZ ([] ++ textB l ++ [c]) 0 = some (l, (textB l).length) := by
  have hne := textB_ne l
  have hpos : 0 < (textB l).length := List.length_pos_iff.2 hne
  rw [gtextZ, if_neg (by simp)]
  have e0 : (0 : Int).toNat = 0 := rfl
  simp only [gtextB, e0, List.drop_zero, List.nil_append, Nat.zero_add]
  have e1 : textB l ++ [c] = numB l.length ++ (l ++ [c]) := by simp [textB]
  rw [e1, getB_num _ _ (by omega)]
  simp only []
  rw [if_pos (by simp; omega)]
  simp [textB]
theorem back_s (s : ByteArray) : (⟨s.data.toList.toArray⟩ : ByteArray) = s := by simp
theorem blk_ge (g n c : Nat) : ∀ k, (Value.slice (some ⟨g, 0, none⟩) n c).ownBlock = some k → g ≤ k := by
  intro k hk
  have e : g = k := by simpa [Value.ownBlock] using hk
  omega
theorem made_one (w : World) (T : TypeId) (base : Nat) (hb : base ≤ w.heap.size) : (w.alloc (.cells #[.int .u8 9] 5)).ownsRow base 5 1 (.slice (some ⟨w.heap.size, 0, none⟩) 1 1) ([9] : List UInt8).length (bcells [9]) := by
  refine ⟨rfl, .inr ⟨w.heap.size, 1, #[.int .u8 9], rfl, hb, (MapKept.heap_alloc w _).1, Nat.le_refl _, by decide, rfl, rfl⟩⟩
theorem made_none (w : World) (base : Nat) (hb : base ≤ w.heap.size) : (w.alloc (.cells #[] 5)).ownsRow base 5 1 (.slice (some ⟨w.heap.size, 0, none⟩) 0 0) ([] : List UInt8).length (bcells []) :=
  World.ownsRow_made w #[] 0 hb (by decide) (by simp)
set_option maxHeartbeats 4000000 in
theorem walkFnNums (a0 : Option Addr) (len0 cap0 : Nat) (z0 : List Int) (w : World) (w0 : IsRow .u8 w a0 len0 cap0 z0) :
    Calls Try.prog 3 #[.slice a0 len0 cap0] w fun e w' => e = .returned (.bool true) ∧ Below w.heap.size w w' := by
  have hr := row8_of w0
  clear w0
  by_cases hbig : 1048576 < len0
  · go_enter Try.func3, Try.ntmps3
    go_wp2_with (go_at_call 8; refine (big_yes _ _ _ hbig hr.1 _).mono ?_; rintro e w1 ⟨rfl, rfl⟩)
    go_ret
    exact ⟨rfl, Below.refl _ _⟩
  · go_enter Try.func3, Try.ntmps3
    go_wp2_with (go_at_call 8; refine (big_no _ _ _ hbig _).mono ?_; rintro e w1 ⟨rfl, rfl⟩)
    refine (drawPutNum_any _ _ _ _ hr).mono ?_
    rintro e w1 ⟨⟨x, hx, rfl⟩, hb1⟩
    have hx1 := hx.1
    have hx2 := hx.2
    go_wp2_with fail
    refine (implPutNum_own x hx1 hx2 w1).mono ?_
    rintro e w2 ⟨⟨v2, rfl, o2⟩, hb2⟩
    have hb2' := hb1.trans (hb2.mono hb1.size)
    by_cases hneg : x < 0
    · rw [numZ, if_pos hneg] at o2
      obtain ⟨-, a, cap, rfl, -, -⟩ := o2
      simp only [List.length_nil]
      go_wp2
      go_ret
      exact ⟨rfl, hb2'⟩
    · rw [numZ, if_neg hneg] at o2
      obtain ⟨n, rfl⟩ := Int.eq_ofNat_of_zero_le (show 0 ≤ x by omega)
      rw [Int.toNat_natCast] at o2
      have hn9 := numB_len n
      have hget := dHide (fun c => get_after n c (by omega))
      obtain ⟨-, av, cap, rfl, -, ho⟩ := o2
      obtain ⟨b, off, rfl, hbb, hcells⟩ := ho.resolve_left (numB_ne n)
      have hsrc := fun i h => (hcells i h).1
      have HS := dHide hsrc
      have hbs2 := hb2'.size
      have hr2 := hr.below hb2'
      clear hcells hsrc ho
      have hbA : Below w2.heap.size w2 (w2.alloc (.cells #[.int .u8 9] 5)) := (Below.refl _ _).alloc (Nat.le_refl _) _
      go_wp2_with (first | (at_builtin; refine app8 _ rfl (.tmp 25) (.tmp 26) rfl w2.heap.size _ [9] rfl (made_one w2 5 _ (Nat.le_refl _)) ⟨b, off, none⟩ _ _ (numB n) rfl rfl (src_cells (fun i h => (hbA.cell (p := ⟨b, off + i, none⟩) (dCell_lt (dUnhide HS i h))).trans (dUnhide HS i h))) (by simp; omega) (by simp) ?_; intro v3 w3 own3 grow3))
      have hb3 : Below w2.heap.size w2 w3 := hbA.grown grow3 (by simp) (blk_ge _ _ _)
      have hb3' := hb2'.trans (hb3.mono hb2'.size)
      have hr3 := hr.below hb3'
      have lt3 := own3.lt
      have hs3 := hb3.size
      clear hbA grow3 HS
      go_wp2_with fail
      refine (at_any a0 len0 cap0 1 (by omega) w3 hr3 (by omega)).mono ?_
      rintro e w4 ⟨⟨c, c0, c1, rfl⟩, rfl⟩
      have HC := dHide (byte_of c c0 c1)
      go_wp2_with (at_builtin; refine app8 _ rfl (.tmp 27) (.tmp 31) rfl w2.heap.size _ ([9] ++ numB n) rfl (own3.alloc _) ⟨w3.heap.size, 0, none⟩ 1 1 [UInt8.ofNat c.toNat] rfl rfl (one_byte _ _ _ _ (dUnhide HC)) (by simp; omega) (by simp; omega) ?_; intro v5 w5 own5 grow5)
      have hb5 : Below w2.heap.size w2 w5 := (hb3.alloc (by omega) _).grown grow5 (by simp; omega) (fun k hk => (lt3 k hk).1)
      have hb5' := hb2'.trans (hb5.mono hb2'.size)
      have o5 := ownB_of_row own5
      have hr5 := hr.below hb5'
      clear own3 grow5 lt3 own5 hb3 hb3' hr3 HC hs3
      have hl5 : ([9] ++ numB n ++ [UInt8.ofNat c.toNat]).length ≤ 100 := by simp; omega
      have hg5 := dUnhide hget (UInt8.ofNat c.toNat)
      generalize [9] ++ numB n ++ [UInt8.ofNat c.toNat] = L5 at *
      refine (implGetNum_any v5 L5 1 w5 o5.bs (by omega) (by omega) (by omega)).mono ?_
      rw [hg5]
      rintro e w6 ⟨rfl, hb6⟩
      simp only [getT]
      have hb6' := hb5'.trans (hb6.mono hb5'.size)
      have hr6 := hr.below hb6'
      clear hget hg5 hl5 o5 hb5 hb5' hr5 hb6 hr2
      go_wp2_with fail
      refine (drawPutText_any a0 len0 cap0 w6 hr6).mono ?_
      rintro e w7 ⟨⟨s, hs, rfl⟩, hb7⟩
      have hb7' := hb6'.trans (hb7.mono hb6'.size)
      go_wp2_with fail
      refine (implPutText_own s (by omega) w7).mono ?_
      rintro e w8 ⟨⟨v8, rfl, o8⟩, hb8⟩
      have hb8' := hb7'.trans (hb8.mono hb7'.size)
      have hsl : s.data.toList.length = s.size := by rw [← Lib.size_eq]
      have htx := dHide (fun c => text_after s.data.toList c (by omega))
      have hn9' := numB_len s.data.toList.length
      have htl : (textB s.data.toList).length ≤ 100 := by rw [textB, List.length_append]; omega
      obtain ⟨-, av8, cap8, rfl, -, ho8⟩ := o8
      obtain ⟨b8, off8, rfl, hbb8, hcells8⟩ := ho8.resolve_left (textB_ne _)
      have HS8 := dHide (fun i h => (hcells8 i h).1)
      have hr8 := hr.below hb8'
      have hbs8 := hb8'.size
      clear hcells8 ho8 hsl hn9' hb1 hb2 hb2' hb6' hb7 hb7' hr6
      generalize textB s.data.toList = TX at *
      have hbA : Below w8.heap.size w8 (w8.alloc (.cells #[] 5)) := (Below.refl _ _).alloc (Nat.le_refl _) _
      go_wp2_with (at_builtin; refine app8 _ rfl (.tmp 42) (.tmp 43) rfl w8.heap.size _ [] rfl (made_none w8 _ (Nat.le_refl _)) ⟨b8, off8, none⟩ _ _ TX rfl rfl (src_cells (fun i h => (hbA.cell (p := ⟨b8, off8 + i, none⟩) (dCell_lt (dUnhide HS8 i h))).trans (dUnhide HS8 i h))) (by simp; omega) (by simp) ?_; intro v9 w9 own9 grow9)
      have hb9 : Below w8.heap.size w8 w9 := hbA.grown grow9 (by simp) (blk_ge _ _ _)
      have hb9' := hb8'.trans (hb9.mono hb8'.size)
      have hr9 := hr.below hb9'
      have lt9 := own9.lt
      have hs9 := hb9.size
      clear hbA grow9 HS8
      go_wp2_with fail
      refine (at_any a0 len0 cap0 2 (by omega) w9 hr9 (by omega)).mono ?_
      rintro e w10 ⟨⟨d, d0, d1, rfl⟩, rfl⟩
      have HD := dHide (byte_of d d0 d1)
      go_wp2_with (at_builtin; refine app8 _ rfl (.tmp 44) (.tmp 48) rfl w8.heap.size _ ([] ++ TX) rfl (own9.alloc _) ⟨w9.heap.size, 0, none⟩ 1 1 [UInt8.ofNat d.toNat] rfl rfl (one_byte _ _ _ _ (dUnhide HD)) (by simp; omega) (by simp; omega) ?_; intro v11 w11 own11 grow11)
      have hb11 : Below w8.heap.size w8 w11 := (hb9.alloc (by omega) _).grown grow11 (by simp; omega) (fun k hk => (lt9 k hk).1)
      have hb11' := hb8'.trans (hb11.mono hb8'.size)
      have o11 := ownB_of_row own11
      clear own9 grow11 lt9 own11 hb9 hb9' hr9 HD hs9 hr8
      have hl11 : ([] ++ TX ++ [UInt8.ofNat d.toNat]).length ≤ 200 := by simp; omega
      have hg11 := dUnhide htx (UInt8.ofNat d.toNat)
      generalize [] ++ TX ++ [UInt8.ofNat d.toNat] = L11 at *
      refine (implGetText_any v11 L11 0 w11 o11.bs (by omega) (by omega) (by omega)).mono ?_
      rw [hg11]
      rintro e w12 ⟨rfl, hb12⟩
      simp only [gtextT]
      rw [back_s]
      have hb12' := hb11'.trans (hb12.mono hb11'.size)
      clear hg11 hl11 o11 htx hb11 hb11' hb12 hb8 hb8'
      go_wp2
      go_ret
      refine ⟨?_, hb12'⟩
      simp
end Go.Proofs.Ytgcdhifanhpagaa
