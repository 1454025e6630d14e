/- The walks of the laws FnExactEntryPack, FnExactEntryRead: each returns true at every argument, and writes nothing that was there. -/
import Derived.Test.YtcjchbapeoeaeaaL3A
import Derived.Test.YtcjchbapeoeaeaaBytesEq
import Derived.Test.YtcjchbapeoeaeaaBytesMk
import Derived.Test.YtcjchbapeoeaeaaBytesTo
namespace Go.Proofs.Ytcjchbapeoeaeaa
open Go.ChangeShapes Go.WideShapes Go.ChangeAt Go.RowKit
set_option linter.unusedVariables false

theorem packB_len {e : Ent} (h : entP e) : (packB e.pl.toNat e.wave.toNat e.hole e.data.data.toList).length ≤ 100 := by
  have h1 := numB_len e.pl.toNat
  have h2 := numB_len e.wave.toNat
  have h3 := numB_len (bitN e.hole)
  have h4 := numB_len e.data.data.toList.length
  have h5 : e.data.data.toList.length = e.data.size := by rw [← Lib.size_eq]
  have h6 := h.2.2.2.2.1
  simp only [packB, textB, List.length_append]
  omega
/-- To mark bytes of later memory leaves four cells as they are. -/
theorem Four.marked {w w' : World} {base b : Nat} {v c0 c1 c2 c3 : Value} {bs : List UInt8} (h : Four w b c0 c1 c2 c3) (hd : Drawn (blockOf v) w w') (h0 : bs = [] → w' = w) (ho : OwnB w base v bs) (hb : b < base) : Four w' b c0 c1 c2 c3 := by
  rcases List.eq_nil_or_concat bs with hn | ⟨l, a, hn⟩
  · rw [h0 hn]; exact h
  · have := ho.base (by rw [hn]; simp)
    exact ⟨hd.cell h.1 (by omega), hd.cell h.2.1 (by omega), hd.cell h.2.2.1 (by omega), hd.cell h.2.2.2 (by omega)⟩
/-- The same answer of spec and impl. -/
theorem pack_both (e : Ent) (hf : e.fits) : ∃ (b : Bool) (BS : List UInt8), BS.length ≤ 100 ∧
    (∀ w, Calls Try.prog 23 #[e.val] w fun r w' => (∃ v, r = .returned (.tuple #[v, .bool b]) ∧ OwnB w' w.heap.size v BS) ∧ Below w.heap.size w w') ∧
    (∀ w, Calls Try.prog 11 #[e.val] w fun r w' => (∃ v, r = .returned (.tuple #[v, .bool b]) ∧ OwnB w' w.heap.size v BS) ∧ Below w.heap.size w w') := by
  by_cases h : entP e
  · exact ⟨true, _, packB_len h, specPack_yes e h, implPack_yes e hf h⟩
  · exact ⟨false, [], by simp, specPack_no e hf h, implPack_no e hf h⟩
set_option maxHeartbeats 2000000 in
theorem walkFnExactEntryPack (v : Value) (e : Ent) (w : World) (i : v = e.val ∧ e.fits) :
    Calls Try.prog 6 #[v] w fun r w' => r = .returned (.bool true) ∧ Below w.heap.size w w' := by
  obtain ⟨rfl, hf⟩ := i
  have CS := dHide (szEntry_any e 1048576 (by omega) (by omega) hf.2.2.2.2)
  have CT := dHide (toEntry_any e)
  obtain ⟨b, BS, hlen, h1, h2⟩ := pack_both e hf
  have C1 := dHide h1
  have C2 := dHide h2
  clear h1 h2
  obtain ⟨x, wv, ho, d⟩ := e
  have hsz : d.size ≤ 9223372036854775807 := hf.2.2.2.2
  clear hf
  simp only [Ent.val] at *
  have hb0 : ∀ o, Below w.heap.size w (w.alloc o) := fun o => (Below.refl _ _).alloc (Nat.le_refl _) o
  by_cases hs : (1048576 : Int) < (d.size : Int)
  · rw [if_pos hs] at CS
    clear hs
    go_enter Try.func6, Try.ntmps6
    go_wp2_with fail
    refine (dUnhide CS _).mono ?_
    rintro e w1 ⟨rfl, b1⟩
    have hbe := belowThen (hb0 _) b1
    clear b1 hb0
    go_wp2
    go_ret
    exact ⟨rfl, hbe⟩
  · rw [if_neg hs] at CS
    have hs' : ¬ ((1048576 : Int) - (d.size : Int) < 0) := by omega
    go_enter Try.func6, Try.ntmps6
    go_wp2_with fail
    have F0 := Four.new w (.int .i64 x) (.int .i64 wv) (.bool ho) (.string d) 38
    refine (dUnhide CS _).mono ?_
    rintro e w1 ⟨rfl, b1⟩
    have F1 := F0.kept b1
    have B1 := belowThen (hb0 _) b1
    have H1 := dHide F1
    obtain ⟨k0, k1, k2, k3⟩ := F1
    clear F0 b1 hb0 CS
    go_wp2_with fail
    refine (dUnhide CT _).mono ?_
    rintro e w2 ⟨rfl, b2⟩
    have H2 := dHide ((dUnhide H1).kept b2)
    have B2 := belowThen B1 b2
    clear k0 k1 k2 k3 H1 B1 b2
    go_wp2_with fail
    refine (dUnhide C1 _).mono ?_
    rintro e w3 ⟨⟨v1, rfl, o1⟩, b3⟩
    have F3 := (dUnhide H2).kept b3
    have H3 := dHide F3
    obtain ⟨k0, k1, k2, k3⟩ := F3
    have B3 := belowThen B2 b3
    have R1 := dHide o1.bs
    clear H2 B2 b3
    go_wp2_with fail
    refine (dUnhide CT _).mono ?_
    rintro e w4 ⟨rfl, b4⟩
    have B4 := belowThen B3 b4
    have H4 := dHide ((dUnhide H3).kept b4)
    have R14 := dHide ((dUnhide R1).below b4)
    have hbox3 := dCell_lt (dUnhide H3).1
    clear k0 k1 k2 k3 H3 B3
    go_wp2_with fail
    refine (dUnhide C2 _).mono ?_
    rintro e w5 ⟨⟨v2, rfl, o2⟩, b5⟩
    have B5 := belowThen B4 b5
    have H5 := dHide ((dUnhide H4).kept b5)
    have R15 := (dUnhide R14).below b5
    have s34 := b4.size
    clear H4 B4 b5 b4 R14
    go_wp2_with fail
    refine (eqByteS_yes _ _ _ _ o2.bs R15).mono ?_
    rintro e w6 ⟨rfl, b6⟩
    have o26 := o2.below b6
    have R16 := R15.below b6
    have H6 := dHide ((dUnhide H5).kept b6)
    have B6 := belowThen B5 b6
    have hbox : w.heap.size < w4.heap.size := Nat.lt_of_lt_of_le hbox3 s34
    clear H5 b6 R15 B5 o2 hbox3
    go_wp2_with fail
    refine (markByteS_any _ w4.heap.size 1 _ _ (by omega) (by omega) o26).mono ?_
    rintro e w7 ⟨rfl, o27, d7, n7⟩
    have R17 := R16.apart (dUnhide R1) rfl o26 s34 d7 rfl
    have H7 := dHide (Four.marked (dUnhide H6) d7 n7 o26 hbox)
    have B7 : Below w.heap.size w w7 := mark_below d7 n7 o26 B6 (Nat.le_of_lt hbox) B6.size
    clear d7 n7 o26 R16 H6 B6 R1 s34 hbox
    go_wp2_with fail
    refine (heldByteS_yes _ 1 _ _ (by omega) (by omega) o27.bs).mono ?_
    rintro e w8 ⟨rfl, b8⟩
    have o28 := o27.below b8
    have R18 := R17.below b8
    have F8 := (dUnhide H7).kept b8
    have H8 := dHide F8
    obtain ⟨k0, k1, k2, k3⟩ := F8
    have B8 := belowThen B7 b8
    clear o27 R17 H7 B7 b8
    go_wp2_with fail
    refine (dUnhide CT _).mono ?_
    rintro e w9 ⟨rfl, b9⟩
    have o29 := o28.below b9
    have R19 := R18.below b9
    have B9 := belowThen B8 b9
    clear o28 R18 H8 B8 b9 k0 k1 k2 k3
    go_wp2_with fail
    refine (dUnhide C2 _).mono ?_
    rintro e w10 ⟨⟨v3, rfl, o3⟩, b10⟩
    have o210 := o29.below b10
    have R110 := R19.below b10
    have B10 := belowThen B9 b10
    clear o29 R19 B9 b10 C1 C2 CT
    go_wp2_with fail
    refine (eqByteS_yes _ _ _ _ o3.bs R110).mono ?_
    rintro e w11 ⟨rfl, b11⟩
    have o211 := o210.below b11
    have B11 := belowThen B10 b11
    clear o210 R110 B10 b11 o3
    go_wp2_with fail
    refine (heldByteS_yes _ 1 _ _ (by omega) (by omega) o211.bs).mono ?_
    rintro e w12 ⟨rfl, b12⟩
    have B12 := belowThen B11 b12
    clear o211 B11 b12
    go_wp2
    go_ret
    exact ⟨rfl, B12⟩
set_option maxHeartbeats 2000000 in
theorem walkFnExactEntryRead (v v' : Value) (bs : List UInt8) (x : Int) (w : World) (i : Bs w v bs) (i' : v' = .int .i64 x ∧ -9223372036854775808 ≤ x ∧ x ≤ 9223372036854775807) :
    Calls Try.prog 7 #[v, v'] w fun r w' => r = .returned (.bool true) ∧ Below w.heap.size w w' := by
  obtain ⟨rfl, l1, u1⟩ := i'
  have hi := i
  obtain ⟨hlen, a, cap, rfl, -⟩ := i
  by_cases hz : (1048576 : Int) < (bs.length : Int)
  · clear hi
    go_enter Try.func7, Try.ntmps7
    go_wp2
    go_ret
    exact ⟨rfl, Below.refl _ _⟩
  · have C1 : Hid (∀ w v, Bs w v bs → Calls Try.prog 17 #[v, .int .i64 x] w fun e w' => e = .returned (readT (readZ bs x)) ∧ Below w.heap.size w w') := fun w v h => specRead_any v bs x w h (by omega)
    have C2 : Hid (∀ w v, Bs w v bs → Calls Try.prog 14 #[v, .int .i64 x] w fun e w' => e = .returned (readT (readZ bs x)) ∧ Below w.heap.size w w') := fun w v h => implRead_any v bs x w h (by omega) l1 u1
    have C3 : Hid (∀ w v, Bs w v bs → Calls Try.prog 27 #[v] w fun e w' => (∃ u, e = .returned u ∧ OwnB w' w.heap.size u bs) ∧ Below w.heap.size w w') := fun w v h => toByteS_any v bs w (by omega) h
    obtain ⟨m, y, b, hform⟩ : ∃ (m : Ent) (y : Int) (b : Bool), readT (readZ bs x) = .tuple #[m.val, .int .i64 y, .bool b] := by
      cases readZ bs x with
      | none => exact ⟨⟨0, 0, false, ⟨#[]⟩⟩, 0, false, rfl⟩
      | some r => exact ⟨r.1, _, true, rfl⟩
    rw [hform] at C1 C2
    have CE := dHide (eqEntry_same m)
    clear hform
    obtain ⟨mx, mw, mh, md⟩ := m
    simp only [Ent.val] at *
    have r0 := hi
    clear hi
    go_enter Try.func7, Try.ntmps7
    go_wp2_with fail
    refine (dUnhide C3 _ _ r0).mono ?_
    rintro e w2 ⟨⟨v1, rfl, o1⟩, hb2⟩
    have r2 := r0.below hb2
    go_wp2_with fail
    refine (dUnhide C1 _ _ o1.bs).mono ?_
    rintro e w3 ⟨rfl, hb3⟩
    have r3 := r2.below hb3
    have hbw3 := belowThen hb2 hb3
    clear r0 r2 hb2 hb3 o1
    go_wp2_with fail
    have F3 := dHide (Four.new w3 (.int .i64 mx) (.int .i64 mw) (.bool mh) (.string md) 25)
    have ha : ∀ o, Below w3.heap.size w3 (w3.alloc o) := fun o => (Below.refl _ _).alloc (Nat.le_refl _) o
    have r3 := r3.below (ha (.cells #[.int .i64 mx, .int .i64 mw, .bool mh, .string md] 25))
    have hbw3 := belowThen hbw3 (ha (.cells #[.int .i64 mx, .int .i64 mw, .bool mh, .string md] 25))
    clear ha
    generalize hW : w3.alloc (.cells #[.int .i64 mx, .int .i64 mw, .bool mh, .string md] 25) = W at *
    clear hW
    refine (dUnhide C3 _ _ r3).mono ?_
    rintro e w4 ⟨⟨v2, rfl, o2⟩, hb4⟩
    have F4 := dHide ((dUnhide F3).kept hb4)
    have r4 := r3.below hb4
    have hbw4 := belowThen hbw3 hb4
    clear F3 r3 hbw3 hb4
    go_wp2_with fail
    refine (dUnhide C2 _ _ o2.bs).mono ?_
    rintro e w5 ⟨rfl, hb5⟩
    have F5 := (dUnhide F4).kept hb5
    have r5 := r4.below hb5
    have q5 := o2.bs.below hb5
    have hbw5 := belowThen hbw4 hb5
    clear F4 r4 hbw4 hb5 o2
    have ha : ∀ o, Below w5.heap.size w5 (w5.alloc o) := fun o => (Below.refl _ _).alloc (Nat.le_refl _) o
    obtain ⟨k0, k1, k2, k3⟩ := F5.kept (ha (.cells #[.int .i64 mx, .int .i64 mw, .bool mh, .string md] 25))
    have r5 := r5.below (ha (.cells #[.int .i64 mx, .int .i64 mw, .bool mh, .string md] 25))
    have q5 := q5.below (ha (.cells #[.int .i64 mx, .int .i64 mw, .bool mh, .string md] 25))
    have hbw5 := belowThen hbw5 (ha (.cells #[.int .i64 mx, .int .i64 mw, .bool mh, .string md] 25))
    clear ha F5
    go_wp2_with fail
    refine (dUnhide CE _).mono ?_
    rintro e w6 ⟨rfl, hb6⟩
    have r6 := r5.below hb6
    have q6 := q5.below hb6
    have hbw6 := belowThen hbw5 hb6
    clear r5 q5 hbw5 hb6 k0 k1 k2 k3
    go_wp2_with fail
    refine (dUnhide C3 _ _ r6).mono ?_
    rintro e w7 ⟨⟨v3, rfl, o3⟩, hb7⟩
    have q7 := q6.below hb7
    have hbw7 := belowThen hbw6 hb7
    clear r6 q6 hbw6 hb7
    go_wp2_with fail
    refine (eqByteS_yes _ _ _ _ q7 o3.bs).mono ?_
    rintro e w8 ⟨rfl, hb8⟩
    have hbw8 := belowThen hbw7 hb8
    clear q7 o3 hbw7 hb8
    go_wp2
    go_ret
    exact ⟨rfl, hbw8⟩
end Go.Proofs.Ytcjchbapeoeaeaa
