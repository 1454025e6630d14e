/- The walk of the law FnEntries. -/
import Derived.Test.YtcjchbapeoeaeaaL3A
import Derived.Test.YtcjchbapeoeaeaaEntE
import Derived.Test.YtcjchbapeoeaeaaDrawI
import Derived.Test.YtcjchbapeoeaeaaDrawE
import Derived.Test.YtcjchbapeoeaeaaAtB
import Derived.Test.YtcjchbapeoeaeaaBigB
namespace Go.Proofs.Ytcjchbapeoeaeaa
open Go.ChangeShapes Go.WideShapes Go.ChangeAt Go.RowKit
set_option linter.unusedVariables false

theorem conv_bs {w : World} {v : Value} {bs : List UInt8} (h : Bs w v bs) (hne : 0 < bs.length) : (convert 22 9 v).run Try.prog w = .ok (.string ⟨bs.toArray⟩) w := by
  obtain ⟨h0, a, cap, rfl, hcap, h⟩ := h
  obtain ⟨b, off, rfl, hc⟩ := or_of_lt h hne
  have := conv_cut (w := w) (b := b) (off := off) (p := 0) (n := bs.length) (cap := cap) hc (by omega)
  simpa using this
set_option maxHeartbeats 8000000 in
set_option maxRecDepth 100000 in
theorem walkFnEntries (a0 : Option Addr) (len0 cap0 : Nat) (z0 : List Int) (w : World) (w0 : IsRow .u8 w a0 len0 cap0 z0) :
    Calls Try.prog 3 #[.slice a0 len0 cap0] w fun e w' => e = .returned (.bool true) ∧ Below w.heap.size w w' := by
  have hr := row8_of w0
  have hlen := hr.1
  clear w0
  have ha : ∀ (w : World) o, Below w.heap.size w (w.alloc o) := fun w o => (Below.refl _ _).alloc (Nat.le_refl _) o
  by_cases hbig : 1048576 < len0
  · have CB := dHide (big_yes a0 len0 cap0 hbig hlen)
    go_enter Try.func3, Try.ntmps3
    go_wp2_with fail
    refine (dUnhide CB _).mono ?_
    rintro e w1 ⟨rfl, rfl⟩
    go_wp2
    go_ret
    exact ⟨rfl, Below.refl _ _⟩
  · have CB := dHide (big_no a0 len0 cap0 hbig)
    have CD := dHide (drawEntryPack_any a0 len0 cap0 w hr)
    go_enter Try.func3, Try.ntmps3
    go_wp2_with fail
    refine (dUnhide CB _).mono ?_
    rintro e w1 ⟨rfl, rfl⟩
    go_wp2_with fail
    refine (dUnhide CD).mono ?_
    rintro e w2 ⟨⟨e, ⟨fe, se⟩, rfl⟩, b2⟩
    clear CB CD
    by_cases he : entP e
    · have CP := dHide (implPack_yes e fe he)
      have CO := dHide (specEntOk_yes e he)
      have CI := dHide (implEntOk_yes e fe he)
      have hpos := packB_pos e.pl.toNat e.wave.toNat e.hole e.data.data.toList
      have hple := packB_le he
      have hread := dHide fun c : UInt8 => readZ_pack e he [7] [c]
      obtain ⟨P, V, H, D⟩ := e
      simp only [Ent.val] at CP CO CI hpos hple hread ⊢
      generalize packB P.toNat V.toNat H D.data.toList = PB at *
      clear he fe
      go_wp2_with fail
      have E2 := dHide (Four.new w2 (.int .i64 P) (.int .i64 V) (.bool H) (.string D) 25)
      have b3 := belowThen b2 (ha w2 (.cells #[.int .i64 P, .int .i64 V, .bool H, .string D] 25))
      generalize hbe : w2.heap.size = be at *
      generalize w2.alloc (.cells #[.int .i64 P, .int .i64 V, .bool H, .string D] 25) = w3 at *
      clear hbe b2
      refine (dUnhide CP _).mono ?_
      rintro e w4 ⟨⟨v4, rfl, o4⟩, b4⟩
      have E4 := (dUnhide E2).kept b4
      have H4 := dHide E4
      have b4' := belowThen b3 b4
      obtain ⟨k0, k1, k2, k3⟩ := E4
      have q4 := dHide o4.bs
      clear E2 b3 b4 o4
      go_wp2_with fail
      refine (dUnhide CO _).mono ?_
      rintro e w5 ⟨rfl, b5⟩
      have E5 := (dUnhide H4).kept b5
      have H5 := dHide E5
      have b5' := belowThen b4' b5
      have q5 := dHide ((dUnhide q4).below b5)
      clear k0 k1 k2 k3 b4' H4 q4 b5
      obtain ⟨k0, k1, k2, k3⟩ := E5
      go_wp2_with fail
      refine (dUnhide CI _).mono ?_
      rintro e w6 ⟨rfl, b6⟩
      have H6 := dHide ((dUnhide H5).kept b6)
      have b6' := belowThen b5' b6
      have q6 := (dUnhide q5).below b6
      clear k0 k1 k2 k3 b5' H5 q5 b6 CP CO CI
      obtain ⟨hh0, a4, cap4, rfl, hcap4, hv4⟩ := q6
      obtain ⟨b9, off9, rfl, hc9⟩ := or_of_lt hv4 hpos
      have HS := dHide hc9
      clear hv4 hc9
      have o7 := made_byte w6 7 7 (by decide) w6.heap.size (Nat.le_refl _)
      have hbA := ha w6 (.cells #[.int .u8 7] 5)
      go_wp2_with (at_builtin; refine app8 _ rfl _ _ rfl w6.heap.size _ [7] rfl o7 ⟨b9, off9, none⟩ _ _ PB rfl rfl (src_cells (fun i h => (hbA.cell (p := ⟨b9, off9 + i, none⟩) (dCell_lt (dUnhide HS i h))).trans (dUnhide HS i h))) (by simp; omega) (by simp) ?_; intro v7 w7 own7 grow7)
      have b7 : Below w6.heap.size w6 w7 := hbA.grown grow7 (by simp) (fun k hk => (o7.lt k hk).1)
      have H7a := H6
      have H7 := dHide ((dUnhide H6).kept b7)
      have b7' := belowThen b6' b7
      have lt7 := own7.lt
      have s7 := b7.size
      clear hbA grow7 HS o7 H6
      go_wp2_with fail
      refine (at_any a0 len0 cap0 1 (by omega) w7 (hr.below b7') (by omega)).mono ?_
      rintro e w8 ⟨⟨c, c0, c1, rfl⟩, rfl⟩
      have HC := dHide (byte_of c c0 c1)
      go_wp2_with (at_builtin; refine app8 _ rfl _ _ rfl w6.heap.size _ ([7] ++ PB) rfl (own7.alloc _) ⟨w7.heap.size, 0, none⟩ 1 1 [UInt8.ofNat c.toNat] rfl rfl (one_byte _ _ _ _ (dUnhide HC)) (by simp; omega) (by simp; omega) ?_; intro v8 w8 own8 grow8)
      have b8 : Below w6.heap.size w6 w8 := (b7.alloc (by omega) _).grown grow8 (by simp; omega) (fun k hk => (lt7 k hk).1)
      have a8 := ha w7 (.cells #[.int .u8 c] 5)
      have b8' := belowThen b6' b8
      obtain ⟨L, hLe, q8⟩ : ∃ L, L = [7] ++ (PB ++ [UInt8.ofNat c.toNat]) ∧ Bs w8 v8 L := ⟨_, rfl, by have := (ownB_of_row (own_len8 own8)).bs; simpa using this⟩
      have hrd : readZ L 1 = some (⟨P, V, H, D⟩, 1 + PB.length) := by rw [hLe]; exact dUnhide hread _
      have hl8 : L.length ≤ 200 := by rw [hLe]; simp; omega
      have CR0 := dHide (implRead_any v8 L 1 w8 q8 (by omega) (by omega) (by omega))
      rw [hrd] at CR0
      simp only [readT, Ent.val] at CR0
      have H8 := (dUnhide H7a).kept b8
      clear hrd hLe hread q8 own8 grow8 own7 lt7 s7 a8 HC hl8
      refine (dUnhide CR0).mono ?_
      rintro e w9 ⟨rfl, b9x⟩
      have H9 := H8.kept b9x
      have hb9 := belowThen b8' b9x
      obtain ⟨k0, k1, k2, k3⟩ := H9.kept (ha w9 (.cells #[.int .i64 P, .int .i64 V, .bool H, .string D] 25))
      have hbS := belowThen hb9 (ha w9 (.cells #[.int .i64 P, .int .i64 V, .bool H, .string D] 25))
      clear CR0 H8 H9 b9x b8 b8' hb9 b7 b7' H7 H7a b6'
      go_wp2_with fail
      refine (drawEntryRead_any _ _ _ _ (hr.below hbS)).mono ?_
      rintro e w11 ⟨⟨v9, bs, x, q9, hl9, ⟨x1, x2⟩, rfl⟩, b11⟩
      have B11 := belowThen hbS b11
      clear b11 hbS
      have CR := dHide fun W h => implRead_any v9 bs x W h (by omega) x1 x2
      have CSR := dHide fun W h => specRead_any v9 bs x W h (by omega)
      cases hz : readZ bs x with
      | none =>
        rw [hz] at CR CSR
        simp only [readT] at CR CSR
        go_wp2_with fail
        refine (dUnhide CR _ q9).mono ?_
        rintro e w12 ⟨rfl, b12⟩
        have q12 := q9.below b12
        have B12 := belowThen B11 b12
        clear q9 b12 B11
        go_wp2_with fail
        have X12 := dHide (Four.new w12 (.int .i64 0) (.int .i64 0) (.bool false) (.string ⟨#[]⟩) 25)
        have q13 := q12.below (ha w12 (.cells #[.int .i64 0, .int .i64 0, .bool false, .string ⟨#[]⟩] 25))
        have B13 := belowThen B12 (ha w12 (.cells #[.int .i64 0, .int .i64 0, .bool false, .string ⟨#[]⟩] 25))
        generalize hbx : w12.heap.size = bx at *
        generalize w12.alloc (.cells #[.int .i64 0, .int .i64 0, .bool false, .string ⟨#[]⟩] 25) = w13 at *
        clear hbx q12 B12
        refine (dUnhide CSR _ q13).mono ?_
        rintro e w14 ⟨rfl, b14⟩
        have X14 := (dUnhide X12).kept b14
        have q14 := q13.below b14
        have B14 := belowThen B13 b14
        obtain ⟨e0, e1, e2, e3⟩ := X14.kept (ha w14 (.cells #[.int .i64 0, .int .i64 0, .bool false, .string ⟨#[]⟩] 25))
        have X15 := dHide (X14.kept (ha w14 (.cells #[.int .i64 0, .int .i64 0, .bool false, .string ⟨#[]⟩] 25)))
        have q15 := q14.below (ha w14 (.cells #[.int .i64 0, .int .i64 0, .bool false, .string ⟨#[]⟩] 25))
        have B15 := belowThen B14 (ha w14 (.cells #[.int .i64 0, .int .i64 0, .bool false, .string ⟨#[]⟩] 25))
        clear X12 X14 q13 q14 B13 B14 b14
        go_wp2_with fail
        generalize w14.alloc (.cells #[.int .i64 0, .int .i64 0, .bool false, .string ⟨#[]⟩] 25) = w15 at *
        refine (implPack_no ⟨0, 0, false, ⟨#[]⟩⟩ ⟨by simp only; omega, by simp only; omega, by simp only; omega, by simp only; omega, by show (0 : Nat) ≤ _; omega⟩ (by unfold entP isPl; simp) _).mono ?_
        rintro e w16 ⟨⟨v17, rfl, o17⟩, b16⟩
        obtain ⟨e0, e1, e2, e3⟩ := (dUnhide X15).kept b16
        have B16 := belowThen B15 b16
        clear X15 B15 b16 o17 q15
        go_wp2_with fail
        go_quiet (fail)
        go_wp2
        go_ret
        exact ⟨rfl, below_drewN B16 _⟩
      | some r =>
        obtain ⟨m, q⟩ := r
        obtain ⟨hx0, hm, rest, hd, hq⟩ := readZ_inv hz
        rw [hz] at CR CSR
        have CP := dHide (implPack_yes m (Ent.fits_of hm) hm)
        have hpos := packB_pos m.pl.toNat m.wave.toNat m.hole m.data.data.toList
        obtain ⟨P, V, H, D⟩ := m
        simp only [readT, Ent.val] at CR CSR CP hd hq hpos
        generalize packB P.toNat V.toNat H D.data.toList = PB at *
        obtain ⟨n, rfl⟩ := Int.eq_ofNat_of_zero_le hx0
        rw [Int.toNat_natCast] at hd hq
        subst hq
        have hle : n + PB.length ≤ bs.length := by
          have h1 := congrArg List.length hd
          rw [List.length_drop, List.length_append] at h1
          omega
        have htake : (bs.drop n).take PB.length = PB := by rw [hd, List.take_left]
        clear hz hm hd hx0
        go_wp2_with fail
        refine (dUnhide CR _ q9).mono ?_
        rintro e w12 ⟨rfl, b12⟩
        have q12 := q9.below b12
        have B12 := belowThen B11 b12
        clear q9 b12 B11
        go_wp2_with fail
        have X12 := dHide (Four.new w12 (.int .i64 P) (.int .i64 V) (.bool H) (.string D) 25)
        have q13 := q12.below (ha w12 (.cells #[.int .i64 P, .int .i64 V, .bool H, .string D] 25))
        have B13 := belowThen B12 (ha w12 (.cells #[.int .i64 P, .int .i64 V, .bool H, .string D] 25))
        generalize hbx : w12.heap.size = bx at *
        generalize w12.alloc (.cells #[.int .i64 P, .int .i64 V, .bool H, .string D] 25) = w13 at *
        clear hbx q12 B12
        refine (dUnhide CSR _ q13).mono ?_
        rintro e w14 ⟨rfl, b14⟩
        have X14 := (dUnhide X12).kept b14
        have q14 := q13.below b14
        have B14 := belowThen B13 b14
        obtain ⟨e0, e1, e2, e3⟩ := X14.kept (ha w14 (.cells #[.int .i64 P, .int .i64 V, .bool H, .string D] 25))
        have X15 := dHide (X14.kept (ha w14 (.cells #[.int .i64 P, .int .i64 V, .bool H, .string D] 25)))
        have q15 := q14.below (ha w14 (.cells #[.int .i64 P, .int .i64 V, .bool H, .string D] 25))
        have B15 := belowThen B14 (ha w14 (.cells #[.int .i64 P, .int .i64 V, .bool H, .string D] 25))
        clear X12 X14 q13 q14 B13 B14 b14
        go_wp2_with fail
        generalize w14.alloc (.cells #[.int .i64 P, .int .i64 V, .bool H, .string D] 25) = w15 at *
        refine (dUnhide CP _).mono ?_
        rintro e w16 ⟨⟨v17, rfl, o17⟩, b16⟩
        obtain ⟨e0, e1, e2, e3⟩ := (dUnhide X15).kept b16
        have B16 := belowThen B15 b16
        have q16 := q15.below b16
        have cA := fun k => conv_bs ((o17.bs).below (below_drewN (Below.refl w16.heap.size w16) k)) hpos
        obtain ⟨hh0, a9, cap9, rfl, hcap9, hv9⟩ := q16
        obtain ⟨b9, off9, rfl, hc9⟩ := or_of_lt hv9 (show n < bs.length by omega)
        have cB := fun k cap' => conv_cut (w := w16.drewN k) (cap := cap') (fun i h => (by simpa using hc9 i h)) hle
        rw [htake] at cB
        have t1 : (0 : Int) ≤ (n : Int) := by omega
        have t2 : ((n + PB.length : Nat) : Int) ≤ (cap9 : Int) := by omega
        clear X15 B15 b16 o17 q15 hc9 hv9 htake CP CR CSR
        go_wp2_with fail
        go_quiet (fail)
        go_wp2
        go_ret
        exact ⟨rfl, below_drewN B16 _⟩
    · have CP := dHide (implPack_no e fe he)
      have CO := dHide (specEntOk_no e fe he)
      have CI := dHide (implEntOk_no e fe he)
      obtain ⟨P, V, H, D⟩ := e
      simp only [Ent.val] at CP CO CI ⊢
      clear he fe
      go_wp2_with fail
      have E2 := dHide (Four.new w2 (.int .i64 P) (.int .i64 V) (.bool H) (.string D) 25)
      have b3 := belowThen b2 (ha w2 (.cells #[.int .i64 P, .int .i64 V, .bool H, .string D] 25))
      generalize hbe : w2.heap.size = be at *
      generalize w2.alloc (.cells #[.int .i64 P, .int .i64 V, .bool H, .string D] 25) = w3 at *
      clear hbe b2
      refine (dUnhide CP _).mono ?_
      rintro e w4 ⟨⟨v4, rfl, o4⟩, b4⟩
      have E4 := (dUnhide E2).kept b4
      have H4 := dHide E4
      have b4' := belowThen b3 b4
      obtain ⟨k0, k1, k2, k3⟩ := E4
      clear E2 b3 b4
      go_wp2_with fail
      refine (dUnhide CO _).mono ?_
      rintro e w5 ⟨rfl, b5⟩
      have E5 := (dUnhide H4).kept b5
      have b5' := belowThen b4' b5
      clear k0 k1 k2 k3 b4'
      obtain ⟨k0, k1, k2, k3⟩ := E5
      go_wp2_with fail
      refine (dUnhide CI _).mono ?_
      rintro e w6 ⟨rfl, b6⟩
      have hbS := belowThen b5' b6
      clear k0 k1 k2 k3 b5' b5 b6 H4 o4 CP CO CI
      go_wp2_with fail
      refine (drawEntryRead_any _ _ _ _ (hr.below hbS)).mono ?_
      rintro e w11 ⟨⟨v9, bs, x, q9, hl9, ⟨x1, x2⟩, rfl⟩, b11⟩
      have B11 := belowThen hbS b11
      clear b11 hbS
      have CR := dHide fun W h => implRead_any v9 bs x W h (by omega) x1 x2
      have CSR := dHide fun W h => specRead_any v9 bs x W h (by omega)
      cases hz : readZ bs x with
      | none =>
        rw [hz] at CR CSR
        simp only [readT] at CR CSR
        go_wp2_with fail
        refine (dUnhide CR _ q9).mono ?_
        rintro e w12 ⟨rfl, b12⟩
        have q12 := q9.below b12
        have B12 := belowThen B11 b12
        clear q9 b12 B11
        go_wp2_with fail
        have X12 := dHide (Four.new w12 (.int .i64 0) (.int .i64 0) (.bool false) (.string ⟨#[]⟩) 25)
        have q13 := q12.below (ha w12 (.cells #[.int .i64 0, .int .i64 0, .bool false, .string ⟨#[]⟩] 25))
        have B13 := belowThen B12 (ha w12 (.cells #[.int .i64 0, .int .i64 0, .bool false, .string ⟨#[]⟩] 25))
        generalize hbx : w12.heap.size = bx at *
        generalize w12.alloc (.cells #[.int .i64 0, .int .i64 0, .bool false, .string ⟨#[]⟩] 25) = w13 at *
        clear hbx q12 B12
        refine (dUnhide CSR _ q13).mono ?_
        rintro e w14 ⟨rfl, b14⟩
        have X14 := (dUnhide X12).kept b14
        have q14 := q13.below b14
        have B14 := belowThen B13 b14
        obtain ⟨e0, e1, e2, e3⟩ := X14.kept (ha w14 (.cells #[.int .i64 0, .int .i64 0, .bool false, .string ⟨#[]⟩] 25))
        have X15 := dHide (X14.kept (ha w14 (.cells #[.int .i64 0, .int .i64 0, .bool false, .string ⟨#[]⟩] 25)))
        have q15 := q14.below (ha w14 (.cells #[.int .i64 0, .int .i64 0, .bool false, .string ⟨#[]⟩] 25))
        have B15 := belowThen B14 (ha w14 (.cells #[.int .i64 0, .int .i64 0, .bool false, .string ⟨#[]⟩] 25))
        clear X12 X14 q13 q14 B13 B14 b14
        go_wp2_with fail
        generalize w14.alloc (.cells #[.int .i64 0, .int .i64 0, .bool false, .string ⟨#[]⟩] 25) = w15 at *
        refine (implPack_no ⟨0, 0, false, ⟨#[]⟩⟩ ⟨by simp only; omega, by simp only; omega, by simp only; omega, by simp only; omega, by show (0 : Nat) ≤ _; omega⟩ (by unfold entP isPl; simp) _).mono ?_
        rintro e w16 ⟨⟨v17, rfl, o17⟩, b16⟩
        obtain ⟨e0, e1, e2, e3⟩ := (dUnhide X15).kept b16
        have B16 := belowThen B15 b16
        clear X15 B15 b16 o17 q15
        go_wp2_with fail
        go_quiet (fail)
        go_wp2
        go_ret
        exact ⟨rfl, below_drewN B16 _⟩
      | some r =>
        obtain ⟨m, q⟩ := r
        obtain ⟨hx0, hm, rest, hd, hq⟩ := readZ_inv hz
        rw [hz] at CR CSR
        have CP := dHide (implPack_yes m (Ent.fits_of hm) hm)
        have hpos := packB_pos m.pl.toNat m.wave.toNat m.hole m.data.data.toList
        obtain ⟨P, V, H, D⟩ := m
        simp only [readT, Ent.val] at CR CSR CP hd hq hpos
        generalize packB P.toNat V.toNat H D.data.toList = PB at *
        obtain ⟨n, rfl⟩ := Int.eq_ofNat_of_zero_le hx0
        rw [Int.toNat_natCast] at hd hq
        subst hq
        have hle : n + PB.length ≤ bs.length := by
          have h1 := congrArg List.length hd
          rw [List.length_drop, List.length_append] at h1
          omega
        have htake : (bs.drop n).take PB.length = PB := by rw [hd, List.take_left]
        clear hz hm hd hx0
        go_wp2_with fail
        refine (dUnhide CR _ q9).mono ?_
        rintro e w12 ⟨rfl, b12⟩
        have q12 := q9.below b12
        have B12 := belowThen B11 b12
        clear q9 b12 B11
        go_wp2_with fail
        have X12 := dHide (Four.new w12 (.int .i64 P) (.int .i64 V) (.bool H) (.string D) 25)
        have q13 := q12.below (ha w12 (.cells #[.int .i64 P, .int .i64 V, .bool H, .string D] 25))
        have B13 := belowThen B12 (ha w12 (.cells #[.int .i64 P, .int .i64 V, .bool H, .string D] 25))
        generalize hbx : w12.heap.size = bx at *
        generalize w12.alloc (.cells #[.int .i64 P, .int .i64 V, .bool H, .string D] 25) = w13 at *
        clear hbx q12 B12
        refine (dUnhide CSR _ q13).mono ?_
        rintro e w14 ⟨rfl, b14⟩
        have X14 := (dUnhide X12).kept b14
        have q14 := q13.below b14
        have B14 := belowThen B13 b14
        obtain ⟨e0, e1, e2, e3⟩ := X14.kept (ha w14 (.cells #[.int .i64 P, .int .i64 V, .bool H, .string D] 25))
        have X15 := dHide (X14.kept (ha w14 (.cells #[.int .i64 P, .int .i64 V, .bool H, .string D] 25)))
        have q15 := q14.below (ha w14 (.cells #[.int .i64 P, .int .i64 V, .bool H, .string D] 25))
        have B15 := belowThen B14 (ha w14 (.cells #[.int .i64 P, .int .i64 V, .bool H, .string D] 25))
        clear X12 X14 q13 q14 B13 B14 b14
        go_wp2_with fail
        generalize w14.alloc (.cells #[.int .i64 P, .int .i64 V, .bool H, .string D] 25) = w15 at *
        refine (dUnhide CP _).mono ?_
        rintro e w16 ⟨⟨v17, rfl, o17⟩, b16⟩
        obtain ⟨e0, e1, e2, e3⟩ := (dUnhide X15).kept b16
        have B16 := belowThen B15 b16
        have q16 := q15.below b16
        have cA := fun k => conv_bs ((o17.bs).below (below_drewN (Below.refl w16.heap.size w16) k)) hpos
        obtain ⟨hh0, a9, cap9, rfl, hcap9, hv9⟩ := q16
        obtain ⟨b9, off9, rfl, hc9⟩ := or_of_lt hv9 (show n < bs.length by omega)
        have cB := fun k cap' => conv_cut (w := w16.drewN k) (cap := cap') (fun i h => (by simpa using hc9 i h)) hle
        rw [htake] at cB
        have t1 : (0 : Int) ≤ (n : Int) := by omega
        have t2 : ((n + PB.length : Nat) : Int) ≤ (cap9 : Int) := by omega
        clear X15 B15 b16 o17 q15 hc9 hv9 htake CP CR CSR
        go_wp2_with fail
        go_quiet (fail)
        go_wp2
        go_ret
        exact ⟨rfl, below_drewN B16 _⟩
end Go.Proofs.Ytcjchbapeoeaeaa
