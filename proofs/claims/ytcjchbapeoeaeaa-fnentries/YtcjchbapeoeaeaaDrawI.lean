/- DrawEntryRead. -/
import Derived.Test.YtcjchbapeoeaeaaDrawH
import Derived.Test.YtcjchbapeoeaeaaEntB
namespace Go.Proofs.Ytcjchbapeoeaeaa
open Go.ChangeShapes Go.WideShapes Go.ChangeAt Go.RowKit
set_option linter.unusedVariables false

theorem made_byte (w : World) (c : UInt8) (X : Int) (h : (c.toNat : Int) = X) (base : Nat) (hb : base ≤ w.heap.size) : (w.alloc (.cells #[.int .u8 X] 5)).ownsRow base 5 1 (.slice (some ⟨w.heap.size, 0, none⟩) 1 1) ([c] : List UInt8).length (bcells [c]) := by
  subst h
  have := World.ownsRow_lit (base := base) (size := 1) (e := 5) w #[.int .u8 (c.toNat : Int)] 1 hb (by unfold maxLen; decide) (by simp)
  simpa [bcells] using this
theorem Cur.rowG {bk : Nat} {w w' : World} {row : Option Nat} (h : Cur w bk) (hg : w.grownBy w' row) (hr : ∀ k, row = some k → bk < k) : Cur w' bk := h.grown hg hr
theorem Bs.take {w : World} {a : Option Addr} {n cap k : Nat} {bs : List UInt8} (h : Bs w (.slice a n cap) bs) (hk : k ≤ bs.length) : Bs w (.slice a k cap) (bs.take k) := by
  obtain ⟨h0, a', cap', he, hcap, h⟩ := h
  cases he
  have hl : (bs.take k).length = k := by simp; omega
  refine ⟨by omega, a, cap, by rw [hl], by rw [hl]; omega, ?_⟩
  rcases h with h | ⟨b, off, rfl, hc⟩
  · exact .inl (by rw [h]; simp)
  · refine .inr ⟨b, off, rfl, fun i hi => ?_⟩
    rw [hc i (by omega)]
    simp
theorem packB_le {e : Ent} (h : entP e) : (packB e.pl.toNat e.wave.toNat e.hole e.data.data.toList).length ≤ 100 := by
  have h1 := numB_len e.pl.toNat
  have h2 := numB_len e.wave.toNat
  have h3 := numB_len (bitN e.hole)
  have h4 := numB_len e.data.data.toList.length
  have h5 : e.data.data.toList.length = e.data.size := by rw [← Lib.size_eq]
  have h6 := h.2.2.2.2.1
  simp only [packB, textB, List.length_append]
  omega
theorem packB_pos (n1 n2 : Nat) (h : Bool) (d : List UInt8) : 0 < (packB n1 n2 h d).length := by
  have := numB_pos n1
  simp only [packB, List.length_append]
  omega
set_option maxHeartbeats 2000000 in
theorem drawEntryRead_any (a : Option Addr) (len cap : Nat) (w : World) (hr : Row8 w a len) :
    Calls Try.prog 16 #[.slice a len cap] w fun r w' => (∃ v bs x, Bs w' v bs ∧ bs.length ≤ 200 ∧ I64 x ∧ r = .returned (.tuple #[v, .int .i64 x])) ∧ Below w.heap.size w w' := by
  go_enter Try.func16, Try.ntmps16
  go_wp2_with fail
  refine (l1New_any _ _ _ _ hr).mono ?_
  rintro e w1 ⟨bk, rfl, hbk, hc1, b1⟩
  go_wp2_with fail
  have o2 := made_byte w1 9 9 (by decide) w1.heap.size (Nat.le_refl _)
  have h2 : Below w1.heap.size w1 (w1.alloc (.cells #[.int .u8 9] 5)) := (Below.refl _ _).alloc (Nat.le_refl _) _
  have hc2 := hc1.below h2
  have hlt1 := hc1.lt
  generalize hg1 : w1.heap.size = g at *
  generalize w1.alloc (.cells #[.int .u8 9] 5) = w2 at *
  have hb2 : Below w.heap.size w w2 := b1.trans (h2.mono (by rw [← hg1]; exact b1.size))
  clear hr
  refine (l3DrawRight_any bk _ hc2).mono ?_
  rintro e w3 ⟨⟨m, hm, rfl⟩, hc3, hd3⟩
  have hms := packB_le hm
  obtain ⟨x, v, h0, d⟩ := m
  obtain ⟨hp, v0, v1, hv, hd, hh⟩ := hm
  simp only at hp v0 v1 hv hd hh hms
  obtain ⟨p0, p1, p2, p3, p4⟩ := hp
  obtain ⟨n1, rfl⟩ := Int.eq_ofNat_of_zero_le (show 0 ≤ x by omega)
  obtain ⟨n2, rfl⟩ := Int.eq_ofNat_of_zero_le v0
  simp only [Int.toNat_natCast] at hms
  simp only [Ent.val]
  have C4 := dHide (l3Pack_any n1 n2 h0 d (by omega) (by omega) (by omega) w3)
  have o3 := o2.kept hd3.row (.inr (by simp [Value.ownBlock]; omega))
  have hs3 := hd3.size
  have hb3 : Below w.heap.size w w3 := hd3.below hb2 hb2.size hbk
  have hgs : g ≤ w2.heap.size := by have := h2.size; omega
  clear o2 hc2 hd3 hb2 hv hh p0 p1 p2 p3 p4 hd v1 v0 hc1 h2 b1
  go_wp2_with fail
  refine (dUnhide C4).mono ?_
  rintro e w4 ⟨⟨v4, rfl, o4⟩, b4⟩
  obtain ⟨g4, c4, rfl⟩ := own_some o4 (packB_pos n1 n2 h0 d.data.toList)
  have o34 := own_kept o3 (Below.row b4 none)
  have o4 := own_mono o4 (show g ≤ w3.heap.size by omega)
  have hc4 := hc3.below b4
  have hb4 : Below w.heap.size w w4 := hb3.trans (b4.mono hb3.size)
  have hs4 := b4.size
  generalize hPB : packB n1 n2 h0 d.data.toList = PB at *
  clear hPB C4 o3 hc3 hb3 b4
  go_wp2_with (at_builtin; refine app8 _ rfl _ _ rfl g _ [9] rfl o34 ⟨g4, 0, none⟩ _ _ PB rfl rfl (o4.cells rfl) ?c3 ?c4 ?_)
  case c3 => simp; omega
  case c4 => omega
  intro v5 w5 o5 r5
  have hw : w.heap.size ≤ g := by omega
  have hc5 := hc4.grown r5 (fun k e => by simp [Value.ownBlock] at e; omega)
  have hb5 : Below w.heap.size w w5 := hb4.grown r5 hb4.size (fun k e => by simp [Value.ownBlock] at e; omega)
  obtain ⟨BS, o5, hL, hL1⟩ : ∃ BS : List UInt8, w5.ownsRow g 5 1 v5 BS.length (bcells BS) ∧ BS.length ≤ 110 ∧ 1 ≤ BS.length := ⟨_, own_len8 o5, by simp; omega, by simp⟩
  obtain ⟨g5, c5, rfl⟩ := own_some o5 hL1
  have hg5 : g ≤ g5 := (o5.lt g5 rfl).1
  clear r5 o34 o4 hc4 hb4
  go_wp2_with fail
  refine (l1Below_any bk 6 (by omega) (by omega) _ hc5).mono ?_
  rintro e w6 ⟨⟨z, hz, rfl⟩, hc6, hd6⟩
  have o6 := o5.kept hd6.row (.inr (by simp [Value.ownBlock]; omega))
  have hb6 : Below w.heap.size w w6 := hd6.below hb5 hb5.size hbk
  clear o5 hc5 hd6 hb5
  by_cases z0 : ((z : Int) == 0) = true
  · go_wp2_with fail
    refine (l1Below_any bk BS.length hL1 (by omega) _ hc6).mono ?_
    rintro e w7 ⟨⟨j, hj, rfl⟩, hc7, hd7⟩
    have o7 := o6.kept hd7.row (.inr (by simp [Value.ownBlock]; omega))
    have hb7 : Below w.heap.size w w7 := hd7.below hb6 hb6.size hbk
    clear o6 hc6 hd7 hb6
    go_wp2_with fail
    refine (pick_new hc7 [0, 1, 2, 127, 128, 255] _ (by simp) (by simp) _).mono ?_
    rintro e w8 ⟨⟨y, hy, rfl⟩, hc8, hd8⟩
    have hy0 : 0 ≤ y ∧ y ≤ 255 := by
      simp only [List.mem_cons, List.mem_nil_iff, or_false] at hy
      omega
    clear hy
    have o8 := o7.kept hd8.row (.inr (by simp [Value.ownBlock]; omega))
    have hb8 : Below w.heap.size w w8 := hd8.below hb7 hb7.size hbk
    clear o7 hc7 hd8 hb7
    obtain ⟨c, rfl⟩ : ∃ c : UInt8, (c.toNat : Int) = y := ⟨UInt8.ofNat y.toNat, by simp; omega⟩
    have hcell := o8.cellAt j (by omega)
    have hfz := o8.frozenAt j
    obtain ⟨o9, r9⟩ := o8.stored j (.int .u8 (c.toNat : Int))
    have hcell' : w8.cell? ⟨g5, j, none⟩ = some (.int .u8 (BS[j].toNat : Int)) := by rw [hcell]; simp [bcells, hj]
    have e9 : (bcells BS).set j (.int .u8 (c.toNat : Int)) = bcells (BS.set j c) := by simp [bcells, List.map_set]
    rw [e9] at o9
    have q9 := dHide (ownB_of_row o9).bs
    have hb9 : Below w.heap.size w (w8.setCell ⟨g5, j, none⟩ (.int .u8 (c.toNat : Int))) := hb8.grown r9 hb8.size (fun k e => by cases e; omega)
    clear o8 o9 r9 e9 hb8 hcell
    go_wp2
    go_ret2
    exact ⟨⟨_, _, _, dUnhide q9, by simp; omega, by unfold I64; omega, rfl⟩, hb9⟩
  · have z0' : ((z : Int) == 0) = false := by simpa using z0
    clear z0
    by_cases z1 : ((z : Int) == 1) = true
    · go_wp2_with fail
      refine (l1Below_any bk (BS.length + 1) (by omega) (by omega) _ hc6).mono ?_
      rintro e w7 ⟨⟨j, hj, rfl⟩, hc7, hd7⟩
      have o7 := o6.kept hd7.row (.inr (by simp [Value.ownBlock]; omega))
      have hb7 : Below w.heap.size w w7 := hd7.below hb6 hb6.size hbk
      have q7 := (ownB_of_row o7).bs
      have hcap : BS.length ≤ c5 ∧ c5 ≤ 9223372036854775807 := by
        obtain ⟨_, a', cap', he, hcap, _⟩ := q7
        cases he
        exact hcap
      have q8 := dHide (q7.take (show j ≤ BS.length by omega))
      clear o6 hc6 hd7 hb6 o7 q7
      have hj1 : (0 : Int) ≤ (j : Int) := by omega
      have hj2 : (j : Int) ≤ (c5 : Int) := by omega
      go_wp2
      go_ret2
      exact ⟨⟨_, _, _, dUnhide q8, by simp; omega, by unfold I64; omega, rfl⟩, hb7⟩
    · have z1' : ((z : Int) == 1) = false := by simpa using z1
      clear z1
      by_cases z2 : ((z : Int) == 2) = true
      · go_wp2_with fail
        refine (pick_new hc6 [-1, 0, (BS.length : Int)] _ (by simp) (by simp) _).mono ?_
        rintro e w7 ⟨⟨y, hy, rfl⟩, hc7, hd7⟩
        have hy0 : -1 ≤ y ∧ y ≤ 255 := by
          simp only [List.mem_cons, List.mem_nil_iff, or_false] at hy
          omega
        clear hy
        have o7 := o6.kept hd7.row (.inr (by simp [Value.ownBlock]; omega))
        have hb7 : Below w.heap.size w w7 := hd7.below hb6 hb6.size hbk
        have q7 := dHide (ownB_of_row o7).bs
        clear o6 hc6 hd7 hb6 o7
        go_wp2
        go_ret2
        exact ⟨⟨_, _, _, dUnhide q7, by omega, by unfold I64; omega, rfl⟩, hb7⟩
      · have z2' : ((z : Int) == 2) = false := by simpa using z2
        clear z2
        have q7 := dHide (ownB_of_row o6).bs
        clear o6 hc6
        go_wp2
        go_ret2
        exact ⟨⟨_, _, _, dUnhide q7, by omega, by unfold I64; omega, rfl⟩, hb6⟩
end Go.Proofs.Ytcjchbapeoeaeaa
