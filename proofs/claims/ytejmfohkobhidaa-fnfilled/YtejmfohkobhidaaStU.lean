/- Draws of stores: l6DrawRight. -/
import Derived.Test.YtejmfohkobhidaaStV
import Derived.Test.YtejmfohkobhidaaBoxQ
import Derived.Deep.RegionLaw
namespace Go.Proofs.Ytejmfohkobhidaa
open Go.ChangeShapes Go.WideShapes Go.ChangeAt Go.RowKit
set_option linter.unusedVariables false
set_option linter.unusedSimpArgs false
set_option maxRecDepth 100000

/-- What a drawn store is: in new memory, of ints, and not long. -/
def Drew6 (w w' : World) (u : Value) (nk nl : Nat) : Prop := ∃ s, OwS w' w.heap.size u s ∧ fitS s ∧ s.kept.length ≤ nk ∧ s.late.length ≤ nl
set_option maxHeartbeats 8000000 in
theorem l6DrawRight_any (bk : Nat) (w : World) (hc : Cur w bk) :
    Calls Try.prog 61 #[.pointer (some ⟨bk, 0, none⟩)] w fun e w' => (∃ u, e = .returned u ∧ Drew6 w w' u 200 20) ∧ Cur w' bk ∧ Drawn bk w w' := by
  have ba : ∀ (w : World) o, Below w.heap.size w (w.alloc o) := fun w o => (Below.refl _ _).alloc (Nat.le_refl _) o
  have hk := hc.lt
  have D0 : DS w bk ((w.alloc (.cells #[.slice none 0 0, .slice none 0 0, .int .i64 0] 26)).alloc (.cells #[.slice none 0 0, .slice none 0 0, .int .i64 0] 26)) 0 zeroSt none 0 none 0 := by
    have b2 := belowThen (ba w (.cells #[.slice none 0 0, .slice none 0 0, .int .i64 0] 26)) (ba _ (.cells #[.slice none 0 0, .slice none 0 0, .int .i64 0] 26))
    have e1 : (w.alloc (.cells #[.slice none 0 0, .slice none 0 0, .int .i64 0] 26)).heap.size = w.heap.size + 1 := by simp
    have Z := BxZ.new (B := w.heap.size) (w.alloc (.cells #[.slice none 0 0, .slice none 0 0, .int .i64 0] 26)) [.slice none 0 0, .slice none 0 0, .int .i64 0] 26 (by simp)
    rw [e1] at Z
    exact ⟨zero_right, Z, OwS.zero _ _, (BxZ.new (B := w.heap.size) w [.slice none 0 0, .slice none 0 0, .int .i64 0] 26 (Nat.le_refl _)).below (ba _ _), hc.below b2, Drawn.of_below b2, fun j hj => by simp [touch] at hj, fun j hj => by simp [touch] at hj⟩
  clear hc
  go_enter Try.func61, Try.ntmps61
  go_wp2_with fail
  generalize (w.alloc (.cells #[.slice none 0 0, .slice none 0 0, .int .i64 0] 26)).alloc (.cells #[.slice none 0 0, .slice none 0 0, .int .i64 0] 26) = w0 at *
  refine (l1Below_any bk 8 (by omega) (by omega) _ D0.cur).mono ?_
  rintro e w1 ⟨⟨n, hn, rfl⟩, hc1, hd1⟩
  have D1 := D0.move hk hc1 hd1
  clear D0 hc1 hd1
  go_wp2
  go_loopw [5] (fun x wr => ∃ (k : Nat) (s : St) (ka : Option Addr) (kc : Nat) (la : Option Addr) (lc : Nat), x = .int .i64 (k : Int) ∧ k ≤ n ∧ DS w bk wr wr.heap.size s ka kc la lc) (fun x _ => n - (intOf x).toNat)
  case atStart => exact ⟨0, zeroSt, none, 0, none, 0, rfl, Nat.zero_le _, ⟨D1.right, D1.box, D1.own, D1.res, D1.cur, D1.drawn, fun j hj => by simp [touch] at hj, fun j hj => by simp [touch] at hj⟩⟩
  case round =>
    obtain ⟨k, s, ka, kc, la, lc, rfl, hkn, D⟩ := hrel
    clear D1
    by_cases hlt : (k : Int) < (n : Int)
    · have CL := dHide fun W (h : DS w bk W wr.heap.size s ka kc la lc) => l3DrawRight_any bk W h.cur
      have CP := dHide fun W (h : DS w bk W wr.heap.size s ka kc la lc) e (he : entP e) => specPut_any _ s e W h.own.rs (stP_fit h.right) (entP_fit he)
      have HR := dHide fun e => put_right (e := e) D.right
      have Dd := D.below hk (Below.refl _ _).drew
      have hwr := D.lt
      have DdZ := (D.below hk (ba wr (.cells #[.slice none 0 0, .slice none 0 0, .int .i64 0] 26))).below hk (Below.refl _ _).drew
      have BXZ : BxZ (wr.alloc (.cells #[.slice none 0 0, .slice none 0 0, .int .i64 0] 26)).drew w.heap.size wr.heap.size [.slice none 0 0, .slice none 0 0, .int .i64 0] := BxZ.drew' (BxZ.new (B := w.heap.size) wr [.slice none 0 0, .slice none 0 0, .int .i64 0] 26 (by omega))
      have hZs : wr.heap.size < (wr.alloc (.cells #[.slice none 0 0, .slice none 0 0, .int .i64 0] 26)).drew.heap.size := by
        have e : (wr.alloc (.cells #[.slice none 0 0, .slice none 0 0, .int .i64 0] 26)).heap.size = wr.heap.size + 1 := by simp
        show wr.heap.size < (wr.alloc (.cells #[.slice none 0 0, .slice none 0 0, .int .i64 0] 26)).heap.size
        rw [e]
        exact Nat.lt_succ_self _
      obtain ⟨k0, -⟩ := D.box.2 0 _ rfl
      obtain ⟨k1, -⟩ := D.box.2 1 _ rfl
      obtain ⟨k2, -⟩ := D.box.2 2 _ rfl
      go_wp2_with fail
      go_cut [6, 7] (fun sv ov wx => ∃ bo m mb ka' kc' la' lc', sv = .pointer (some ⟨bo, 0, none⟩) ∧ ov = .bool mb ∧ wr.heap.size ≤ bo ∧ DN w wx bo m ka' kc' la' lc' ∧ DS w bk wx wr.heap.size s ka kc la lc)
      case first =>
        go_region_held3 (fun W => W.cell? ⟨w.heap.size + 1, 0, none⟩ = some (.slice ka s.kept.length kc) ∧ W.cell? ⟨w.heap.size + 1, 1, none⟩ = some (.slice la s.late.length lc) ∧ W.cell? ⟨w.heap.size + 1, 2, none⟩ = some (.int .i64 s.lock)) (first | with_reducible exact ⟨q0, q1, q2⟩ | with_reducible exact ⟨p0, p1, p2⟩ | with_reducible exact ⟨qa0, qa1, qa2⟩ | with_reducible exact ⟨qb0, qb1, qb2⟩ | exact ⟨set_other (set_other (set_other q0 (.inl (by omega))) (.inl (by omega))) (.inl (by omega)), set_other (set_other (set_other q1 (.inl (by omega))) (.inl (by omega))) (.inl (by omega)), set_other (set_other (set_other q2 (.inl (by omega))) (.inl (by omega))) (.inl (by omega))⟩ | go_keep)
          (first
            | (go_at_call 9; have D5z' := D5z; (with_reducible show Calls _ _ _ w5 _); refine (dUnhide CP _ D5z e5 he5).mono ?_; rintro r w6 ⟨⟨u6, rfl, O6⟩, b6⟩; obtain ⟨k6, c6, l6, d6, rfl⟩ := O6.shape; have D6 := D5z.below hk b6; have BX6 := BX5.below b6; have hbo : wr.heap.size < w5.heap.size := hbo5; have q0 := (D6.box.2 0 _ rfl).1; have q1 := (D6.box.2 1 _ rfl).1; have q2 := (D6.box.2 2 _ rfl).1; obtain ⟨z0, f0⟩ := BX6.2 0 _ rfl; obtain ⟨z1, f1⟩ := BX6.2 1 _ rfl; obtain ⟨z2, f2⟩ := BX6.2 2 _ rfl; have R6 := dUnhide HR e5; have hbe : wr.heap.size ≠ w.heap.size + 1 := by omega)
            | (go_at_call 9; have D5' := D5; (with_reducible show Calls _ _ _ w5 _); refine (dUnhide CP _ D5 e5 he5).mono ?_; rintro r w6 ⟨⟨u6, rfl, O6⟩, b6⟩; obtain ⟨k6, c6, l6, d6, rfl⟩ := O6.shape; have D6 := D5.below hk b6; have hbo : wr.heap.size ≤ w6.heap.size := Nat.le_trans hbo5 b6.size; have Da := D6.below hk (ba w6 (.cells #[.slice none 0 0, .slice none 0 0, .int .i64 0] 26)); have qa0 := (Da.box.2 0 _ rfl).1; have qa1 := (Da.box.2 1 _ rfl).1; have qa2 := (Da.box.2 2 _ rfl).1; have Db := D6.below hk (ba w6 (.cells #[.slice k6 (putM s e5).1.kept.length c6, .slice l6 (putM s e5).1.late.length d6, .int .i64 (putM s e5).1.lock] 26)); have qb0 := (Db.box.2 0 _ rfl).1; have qb1 := (Db.box.2 1 _ rfl).1; have qb2 := (Db.box.2 2 _ rfl).1; have q0 := (D6.box.2 0 _ rfl).1; have q1 := (D6.box.2 1 _ rfl).1; have q2 := (D6.box.2 2 _ rfl).1; have R6 := dUnhide HR e5)
            | (go_at_call 9; have D5' := D5; (with_reducible show Calls _ _ _ (w5.alloc _) _); refine (dUnhide CP _ (D5.below hk (ba w5 (.cells #[.slice none 0 0, .slice none 0 0, .int .i64 0] 26))) e5 he5).mono ?_; rintro r w6 ⟨⟨u6, rfl, O6⟩, b6⟩; obtain ⟨k6, c6, l6, d6, rfl⟩ := O6.shape; have D6 := (D5.below hk (ba w5 (.cells #[.slice none 0 0, .slice none 0 0, .int .i64 0] 26))).below hk b6; have BX6 := (BxZ.new (B := w.heap.size) w5 [.slice none 0 0, .slice none 0 0, .int .i64 0] 26 (by omega)).below b6; have hbo : wr.heap.size ≤ w5.heap.size := hbo5; have hb6 := b6.size; have q0 := (D6.box.2 0 _ rfl).1; have q1 := (D6.box.2 1 _ rfl).1; have q2 := (D6.box.2 2 _ rfl).1; obtain ⟨z0, f0⟩ := BX6.2 0 _ rfl; obtain ⟨z1, f1⟩ := BX6.2 1 _ rfl; obtain ⟨z2, f2⟩ := BX6.2 2 _ rfl; have R6 := dUnhide HR e5; have hbe : w5.heap.size ≠ w.heap.size + 1 := by omega)
            | (go_at_call 63; (with_reducible show Calls _ _ _ (World.drew (World.alloc _ _)) _); refine (dUnhide CL _ DdZ).mono ?_; rintro r w5 ⟨⟨e5, he5, rfl⟩, hc5, hd5⟩; have D5z := DdZ.move hk hc5 hd5; have BX5 := BXZ.drawn hd5 (show wr.heap.size ≠ bk by omega); have hbo5 : wr.heap.size < w5.heap.size := Nat.lt_of_lt_of_le hZs hd5.size; have p0 := (D5z.box.2 0 _ rfl).1; have p1 := (D5z.box.2 1 _ rfl).1; have p2 := (D5z.box.2 2 _ rfl).1; clear hc5 hd5)
            | (go_at_call 63; refine (dUnhide CL _ Dd).mono ?_; rintro r w5 ⟨⟨e5, he5, rfl⟩, hc5, hd5⟩; have D5 := Dd.move hk hc5 hd5; have hbo5 : wr.heap.size ≤ w5.heap.size := hd5.size; have p0 := (D5.box.2 0 _ rfl).1; have p1 := (D5.box.2 1 _ rfl).1; have p2 := (D5.box.2 2 _ rfl).1; clear hc5 hd5))
        all_goals
          go_wp2_with fail
          go_meet
          case rel =>
            first
            | exact ⟨w6.heap.size, _, _, k6, c6, l6, d6, rfl, rfl, hbo, DN.made R6 (by omega) (by omega) (by omega) O6 _, Db⟩
            | exact ⟨w5.heap.size, _, _, k6, c6, l6, d6, rfl, rfl, hbo, DN.put BX6 (by omega) R6 O6 (by simp), D6.set3 hk hbo (by omega) _ _ _⟩
            | exact ⟨wr.heap.size, _, _, k6, c6, l6, d6, rfl, rfl, Nat.le_refl _, DN.put BX6 (by omega) R6 O6 hbo5, D6.set3 hk (Nat.le_refl _) (by omega) _ _ _⟩
      case rest =>
        obtain ⟨bo, m, mb, ka', kc', la', lc', rfl, rfl, hbo, N2, D2⟩ := hcut
        have RS := dHide (D.right)
        clear CL CP HR Dd DdZ BXZ hZs k0 k1 k2 D
        go_wp2_with fail
        refine (l1Below_any bk 6 (by omega) (by omega) _ D2.cur).mono ?_
        rintro r w3 ⟨⟨x, hx, rfl⟩, hc3, hd3⟩
        have D3 := D2.move hk hc3 hd3
        have N3 := N2.move hk hd3
        clear D2 N2 hc3 hd3
        have hlt3 := N3.box.lt
        have hfar := N3.far
        by_cases hx0 : x = 0
        · subst hx0
          have CS := dHide (specSync_any _ s w3 D3.own.rs (stP_fit D3.right))
          have RC := dHide (crash_right (k := 1048575) D3.right)
          generalize crashM s 1048575 = C at *
          obtain ⟨c, cb⟩ := C
          simp only at RC CS
          obtain ⟨k0, -⟩ := D3.box.2 0 _ rfl
          obtain ⟨k1, -⟩ := D3.box.2 1 _ rfl
          obtain ⟨k2, -⟩ := D3.box.2 2 _ rfl
          go_wp2_with fail
          refine (dUnhide CS).mono ?_
          rintro r w4 ⟨⟨u, rfl, O4⟩, b4⟩
          obtain ⟨k4, c4, l4, d4, rfl⟩ := O4.shape
          have D4 := D3.below hk b4
          have N4 := N3.below b4
          obtain ⟨y0, g0⟩ := N4.box.2 0 _ rfl
          obtain ⟨y1, g1⟩ := N4.box.2 1 _ rfl
          obtain ⟨y2, g2⟩ := N4.box.2 2 _ rfl
          have N5 := DN.put N4.box hfar (dUnhide RC) O4 hlt3
          have D5 := D4.set3 hk hbo hfar (.slice k4 c.kept.length c4) (.slice l4 c.late.length d4) (.int .i64 c.lock)
          have hl4 := N4.box.lt
          have hbe : bo ≠ w.heap.size + 1 := by omega
          have HD := dHide (D5.weak (B' := (((w4.setCell ⟨bo, 0, none⟩ (.slice k4 c.kept.length c4)).setCell ⟨bo, 1, none⟩ (.slice l4 c.late.length d4)).setCell ⟨bo, 2, none⟩ (.int .i64 c.lock)).heap.size) (by simp only [World.size_setCell]; omega))
          have HT := dHide (D5.take N5 hk)
          obtain ⟨z0, f0⟩ := D4.box.2 0 _ rfl
          obtain ⟨z1, f1⟩ := D4.box.2 1 _ rfl
          obtain ⟨z2, f2⟩ := D4.box.2 2 _ rfl
          clear O4 b4 D4 N4 D3 N3 CS k0 k1 k2 D5 N5 RC
          cases cb
          · go_wp2
            go_roundw
            case rel => exact ⟨k + 1, s, ka, kc, la, lc, by go_num, by omega, dUnhide HD⟩
            case measure => simp [intOf]; omega
          · go_wp2
            go_roundw
            case rel => exact ⟨k + 1, c, k4, c4, l4, d4, by go_num, by omega, (dUnhide HT).weak (by simp)⟩
            case measure => simp [intOf]; omega
        by_cases hx1 : x = 1
        · subst hx1
          have CS := dHide (specSync_any _ m w3 N3.own.rs (stP_fit N3.right))
          have RC := dHide (crash_right (k := 1048575) N3.right)
          generalize crashM m 1048575 = C at *
          obtain ⟨c, cb⟩ := C
          simp only at RC CS
          obtain ⟨k0, -⟩ := N3.box.2 0 _ rfl
          obtain ⟨k1, -⟩ := N3.box.2 1 _ rfl
          obtain ⟨k2, -⟩ := N3.box.2 2 _ rfl
          go_wp2_with fail
          refine (dUnhide CS).mono ?_
          rintro r w4 ⟨⟨u, rfl, O4⟩, b4⟩
          obtain ⟨k4, c4, l4, d4, rfl⟩ := O4.shape
          have D4 := D3.below hk b4
          have N4 := N3.below b4
          obtain ⟨y0, g0⟩ := N4.box.2 0 _ rfl
          obtain ⟨y1, g1⟩ := N4.box.2 1 _ rfl
          obtain ⟨y2, g2⟩ := N4.box.2 2 _ rfl
          have N5 := DN.put N4.box hfar (dUnhide RC) O4 hlt3
          have D5 := D4.set3 hk hbo hfar (.slice k4 c.kept.length c4) (.slice l4 c.late.length d4) (.int .i64 c.lock)
          have hl4 := N4.box.lt
          have hbe : bo ≠ w.heap.size + 1 := by omega
          have HD := dHide (D5.weak (B' := (((w4.setCell ⟨bo, 0, none⟩ (.slice k4 c.kept.length c4)).setCell ⟨bo, 1, none⟩ (.slice l4 c.late.length d4)).setCell ⟨bo, 2, none⟩ (.int .i64 c.lock)).heap.size) (by simp only [World.size_setCell]; omega))
          have HT := dHide (D5.take N5 hk)
          obtain ⟨z0, f0⟩ := D4.box.2 0 _ rfl
          obtain ⟨z1, f1⟩ := D4.box.2 1 _ rfl
          obtain ⟨z2, f2⟩ := D4.box.2 2 _ rfl
          clear O4 b4 D4 N4 D3 N3 CS k0 k1 k2 D5 N5 RC
          cases cb
          · go_wp2
            go_roundw
            case rel => exact ⟨k + 1, s, ka, kc, la, lc, by go_num, by omega, dUnhide HD⟩
            case measure => simp [intOf]; omega
          · go_wp2
            go_roundw
            case rel => exact ⟨k + 1, c, k4, c4, l4, d4, by go_num, by omega, (dUnhide HT).weak (by simp)⟩
            case measure => simp [intOf]; omega
        by_cases hx2 : x = 2
        · subst hx2
          go_wp2_with fail
          refine (l1Once_any bk 3 (by omega) (by omega) _ D3.cur).mono ?_
          rintro r w4 ⟨⟨ob, rfl⟩, hc4, hd4⟩
          have D4 := D3.move hk hc4 hd4
          have N4 := N3.move hk hd4
          clear D3 N3 hc4 hd4 hlt3
          have hlt4 := N4.box.lt
          cases ob
          · have hbz := D4.weak (B' := w4.heap.size) (by have := N4.box.lt; omega)
            have HD := dHide hbz
            have HT := dHide (D4.take N4 hk)
            obtain ⟨n0, -⟩ := N4.box.2 0 _ rfl
            obtain ⟨n1, -⟩ := N4.box.2 1 _ rfl
            obtain ⟨n2, -⟩ := N4.box.2 2 _ rfl
            obtain ⟨z0, f0⟩ := D4.box.2 0 _ rfl
            obtain ⟨z1, f1⟩ := D4.box.2 1 _ rfl
            obtain ⟨z2, f2⟩ := D4.box.2 2 _ rfl
            have hfr := N4.far
            clear hbz D4 N4
            generalize hmb : mb = bb at *
            clear hmb
            cases bb
            · go_wp2
              go_roundw
              case rel => exact ⟨k + 1, s, ka, kc, la, lc, by go_num, by omega, dUnhide HD⟩
              case measure => simp [intOf]; omega
            · go_wp2
              go_roundw
              case rel => exact ⟨k + 1, m, ka', kc', la', lc', by go_num, by omega, (dUnhide HT).weak (by simp)⟩
              case measure => simp [intOf]; omega
          · have CB := dHide fun W (h : DS w bk W wr.heap.size s ka kc la lc) => l1Below_any bk 4 (by omega) (by omega) W h.cur
            have CSe := dHide fun W (h : DS w bk W wr.heap.size s ka kc la lc) (y : Nat) => specSeal_any _ s (y : Int) W h.own.rs (stP_fit h.right)
            have HR := dHide fun (y : Nat) => seal_right (k := (y : Int)) D4.right
            have Dd := D4.below hk (Below.refl _ _).drew
            have Nd := N4.below (Below.refl _ _).drew
            obtain ⟨k0, -⟩ := D4.box.2 0 _ rfl
            obtain ⟨k1, -⟩ := D4.box.2 1 _ rfl
            obtain ⟨k2, -⟩ := D4.box.2 2 _ rfl
            have hbe : bo ≠ w.heap.size + 1 := by omega
            go_wp2_with fail
            go_region_held3 (fun W => W.cell? ⟨w.heap.size + 1, 0, none⟩ = some (.slice ka s.kept.length kc) ∧ W.cell? ⟨w.heap.size + 1, 1, none⟩ = some (.slice la s.late.length lc) ∧ W.cell? ⟨w.heap.size + 1, 2, none⟩ = some (.int .i64 s.lock)) (first | with_reducible exact ⟨q0, q1, q2⟩ | with_reducible exact ⟨p0, p1, p2⟩ | exact ⟨set_other (set_other (set_other q0 (.inl (by omega))) (.inl (by omega))) (.inl (by omega)), set_other (set_other (set_other q1 (.inl (by omega))) (.inl (by omega))) (.inl (by omega)), set_other (set_other (set_other q2 (.inl (by omega))) (.inl (by omega))) (.inl (by omega))⟩ | go_keep)
              (first
                | (go_at_call 89; refine (dUnhide CSe _ D5 y5).mono ?_; rintro r w6 ⟨⟨u6, rfl, O6⟩, b6⟩; obtain ⟨k6, c6, l6, d6, rfl⟩ := O6.shape; have D6 := D5.below hk b6; have N6 := N5.below b6; have q0 := (D6.box.2 0 _ rfl).1; have q1 := (D6.box.2 1 _ rfl).1; have q2 := (D6.box.2 2 _ rfl).1; obtain ⟨z0, f0⟩ := N6.box.2 0 _ rfl; obtain ⟨z1, f1⟩ := N6.box.2 1 _ rfl; obtain ⟨z2, f2⟩ := N6.box.2 2 _ rfl; have R6 := dUnhide HR y5)
                | (go_at_call 44; refine (dUnhide CB _ Dd).mono ?_; rintro r w5 ⟨⟨y5, hy5, rfl⟩, hc5, hd5⟩; have D5 := Dd.move hk hc5 hd5; have N5 := Nd.move hk hd5; have hlt5 := N5.box.lt; have p0 := (D5.box.2 0 _ rfl).1; have p1 := (D5.box.2 1 _ rfl).1; have p2 := (D5.box.2 2 _ rfl).1))
            all_goals
              have N7 := DN.put N6.box hfar R6 O6 hlt5
              have D7 := D6.set3 hk hbo hfar (.slice k6 (sealM s (y5 : Int)).1.kept.length c6) (.slice l6 (sealM s (y5 : Int)).1.late.length d6) (.int .i64 (sealM s (y5 : Int)).1.lock)
              clear z0 z1 z2 f0 f1 f2 q0 q1 q2 p0 p1 p2 k0 k1 k2 O6 D6 N6 D5 N5 Dd Nd D4 N4 R6 HR CB CSe b6
              generalize sealM s (y5 : Int) = C at *
              obtain ⟨c, cb⟩ := C
              simp only at N7 D7
              simp only
              generalize ((w6.setCell ⟨bo, 0, none⟩ (.slice k6 c.kept.length c6)).setCell ⟨bo, 1, none⟩ (.slice l6 c.late.length d6)).setCell ⟨bo, 2, none⟩ (.int .i64 c.lock) = w7 at *
              have hbz := D7.weak (B' := w7.heap.size) (by have := N7.box.lt; omega)
              have HD := dHide hbz
              have HT := dHide (D7.take N7 hk)
              obtain ⟨n0, -⟩ := N7.box.2 0 _ rfl
              obtain ⟨n1, -⟩ := N7.box.2 1 _ rfl
              obtain ⟨n2, -⟩ := N7.box.2 2 _ rfl
              obtain ⟨z0, f0⟩ := D7.box.2 0 _ rfl
              obtain ⟨z1, f1⟩ := D7.box.2 1 _ rfl
              obtain ⟨z2, f2⟩ := D7.box.2 2 _ rfl
              have hfr := N7.far
              clear hbz D7 N7
              generalize hmb : cb = bb at *
              clear hmb
              cases bb
              · go_wp2
                go_roundw
                case rel => exact ⟨k + 1, s, ka, kc, la, lc, by go_num, by omega, dUnhide HD⟩
                case measure => simp [intOf]; omega
              · go_wp2
                go_roundw
                case rel => exact ⟨k + 1, c, k6, c6, l6, d6, by go_num, by omega, (dUnhide HT).weak (by simp)⟩
                case measure => simp [intOf]; omega
        have hbz := D3.weak (B' := w3.heap.size) (by have := N3.box.lt; omega)
        have HD := dHide hbz
        have HT := dHide (D3.take N3 hk)
        obtain ⟨n0, -⟩ := N3.box.2 0 _ rfl
        obtain ⟨n1, -⟩ := N3.box.2 1 _ rfl
        obtain ⟨n2, -⟩ := N3.box.2 2 _ rfl
        obtain ⟨z0, f0⟩ := D3.box.2 0 _ rfl
        obtain ⟨z1, f1⟩ := D3.box.2 1 _ rfl
        obtain ⟨z2, f2⟩ := D3.box.2 2 _ rfl
        have hfr := N3.far
        clear hbz D3 N3
        generalize hmb : mb = bb at *
        clear hmb
        cases bb
        · go_wp2
          go_roundw
          case rel => exact ⟨k + 1, s, ka, kc, la, lc, by go_num, by omega, dUnhide HD⟩
          case measure => simp [intOf]; omega
        · go_wp2
          go_roundw
          case rel => exact ⟨k + 1, m, ka', kc', la', lc', by go_num, by omega, (dUnhide HT).weak (by simp)⟩
          case measure => simp [intOf]; omega
    · have DD := D.de
      have hKL : s.kept.length ≤ 200 := D.right.1.1
      have hLL : s.late.length ≤ 20 := D.right.2.1.1
      have hw2 := D.lt
      clear D
      go_wp2_with fail
      refine (l1Once_any bk 40 (by omega) (by omega) _ DD.cur).mono ?_
      rintro r w3 ⟨⟨ob, rfl⟩, hc3, hd3⟩
      have D3 := DD.move hk (by omega) (by omega) hc3 hd3
      have hs3 := hd3.size
      clear DD hc3 hd3
      cases ob
      · generalize s = X at *
        generalize ka = xa at *
        generalize kc = xc at *
        generalize la = ya at *
        generalize lc = yc at *
        obtain ⟨hx, hO, hC, hD⟩ := D3.out hk (by omega)
        have HX := dHide hx
        have HO := dHide hO
        have HC := dHide hC
        have HDD := dHide hD
        obtain ⟨m0, -⟩ := D3.box.2 0 _ rfl
        obtain ⟨m1, -⟩ := D3.box.2 1 _ rfl
        obtain ⟨m2, -⟩ := D3.box.2 2 _ rfl
        obtain ⟨z0, f0⟩ := D3.res.2 0 _ rfl
        obtain ⟨z1, f1⟩ := D3.res.2 1 _ rfl
        obtain ⟨z2, f2⟩ := D3.res.2 2 _ rfl
        have HF := dHide D3.fit
        clear hx hO hC hD D3
        go_wp2
        generalize ((w3.setCell ⟨w.heap.size, 0, none⟩ (.slice xa X.kept.length xc)).setCell ⟨w.heap.size, 1, none⟩ (.slice ya X.late.length yc)).setCell ⟨w.heap.size, 2, none⟩ (.int .i64 X.lock) = V at *
        have q0 := dUnhide HX 0 _ rfl
        have q1 := dUnhide HX 1 _ rfl
        have q2 := dUnhide HX 2 _ rfl
        clear z0 z1 z2 f0 f1 f2 m0 m1 m2
        refine bodyPost_ret (v := .agg #[.slice xa X.kept.length xc, .slice ya X.late.length yc, .int .i64 X.lock]) (by simp [results, Try.results61, go_sem, q0, q1, q2]) rfl ⟨⟨_, rfl, X, dUnhide HO, dUnhide HF, hKL, hLL⟩, dUnhide HC, dUnhide HDD⟩
      · have D4 := D3.nothing hk (by omega)
        obtain ⟨z0, f0⟩ := D3.box.2 0 _ rfl
        have hs4 : w.heap.size + 1 + 1 ≤ (w3.setCell ⟨w.heap.size + 1, 0, none⟩ (.slice none 0 0)).heap.size := by rw [World.size_setCell]; omega
        clear D3
        go_wp2_with fail
        have hY : s.late.length ≤ 20 := hLL
        generalize w3.setCell ⟨w.heap.size + 1, 0, none⟩ (.slice none 0 0) = w4 at *
        clear z0 f0 hKL hLL
        go_loopw [8] (fun x wq => ∃ (a : Nat) (X : St) (xa : Option Addr) (xc : Nat) (ya : Option Addr) (yc : Nat), x = .int .i64 (a : Int) ∧ 1 ≤ a ∧ a ≤ 5 ∧ X.kept.length ≤ 50 * (a - 1) ∧ X.late.length ≤ 20 ∧ DE w bk (w.heap.size + 1 + 1) (w.heap.size + 1) wq X xa xc ya yc ∧ w.heap.size + 1 + 1 ≤ wq.heap.size) (fun x _ => 6 - (intOf x).toNat)
        case atStart => exact ⟨1, ⟨[], s.late, s.lock⟩, none, 0, la, lc, rfl, Nat.le_refl _, by omega, by simp, hY, D4, hs4⟩
        case round =>
          obtain ⟨a, X, xa, xc, ya, yc, rfl, ha1, ha, hX, hXl, D5, hs5⟩ := hrel
          clear D4 hs4 hY
          by_cases h4 : (a : Int) ≤ 4
          · have ha4 : a ≤ 4 := by omega
            go_wp2
            go_loopw [9] (fun x wq => ∃ (b : Nat) (X : St) (xa : Option Addr) (xc : Nat) (ya : Option Addr) (yc : Nat), x = .int .i64 (b : Int) ∧ 1 ≤ b ∧ b ≤ 51 ∧ X.kept.length ≤ 50 * (a - 1) + (b - 1) ∧ X.late.length ≤ 20 ∧ DE w bk (w.heap.size + 1 + 1) (w.heap.size + 1) wq X xa xc ya yc ∧ w.heap.size + 1 + 1 ≤ wq.heap.size) (fun x _ => 52 - (intOf x).toNat)
            case atStart => exact ⟨1, X, xa, xc, ya, yc, rfl, Nat.le_refl _, by omega, by omega, hXl, D5, hs5⟩
            case round =>
              clear D5 hs5 hX hXl
              clear xa xc ya yc X
              obtain ⟨b, X, xa, xc, ya, yc, rfl, hb1, hb, hX, hXl, D5, hs5⟩ := hrel
              by_cases h50 : (b : Int) ≤ 50
              · have hb50 : b ≤ 50 := by omega
                have bE := ba wr (.cells #[.int .i64 (4294967296 * (a : Int) + (b : Int)), .int .i64 0, .bool false, .string ⟨#[]⟩] 28)
                have D6 := (D5.below hk (by omega) (by omega) bE).below hk (by omega) (by omega) (Below.refl _ _).drew
                have hR := (rw_one wr ⟨4294967296 * (a : Int) + (b : Int), 0, false, ⟨#[]⟩⟩ 28 1 (by omega)).below (Below.refl _ _).drew
                obtain ⟨a', c', w7, hrun, N7, D7⟩ := D6.addK hk (by omega) (by omega) (Nat.le_trans hs5 bE.size) ⟨4294967296 * (a : Int) + (b : Int), 0, false, ⟨#[]⟩⟩ ⟨by simp only; omega, by simp only; omega, by simp only; omega, by simp only; omega, Nat.zero_le _⟩ (by omega) 24 _ hR
                have CPl := dHide fun W => l1Place_in (a : Int) (b : Int) (by omega) (by omega) (by omega) (by omega) W
                have HD7 := dHide D7
                have hs7 := D7.box.lt
                obtain ⟨k0, -⟩ := D5.box.2 0 _ rfl
                obtain ⟨k0a, -⟩ := (D5.below hk (by omega) (by omega) bE).box.2 0 _ rfl
                obtain ⟨n0, f0⟩ := N7.2 0 _ rfl
                clear D5 D6 hR N7 D7 bE
                generalize hP : 4294967296 * (a : Int) + (b : Int) = P at *
                go_wp2
                go_region_law (first | (refine step_appRun rfl _ _ 24 24 rfl _ _ rfl rfl hrun ?_) | (rw [if_pos (by rfl)]; go_simp; go_at_call 62; refine (dUnhide CPl _).mono ?_; rintro r w6 ⟨rfl, rfl⟩; go_simp))
                all_goals
                  go_wp2
                  go_roundw
                  case rel => exact ⟨b + 1, ⟨X.kept ++ [⟨P, 0, false, ⟨#[]⟩⟩], X.late, X.lock⟩, a', c', ya, yc, by go_num, by omega, by omega, by simp only [List.length_append, List.length_singleton]; omega, hXl, dUnhide HD7, hs7⟩
                  case measure => simp [intOf]; omega
              · go_wp2
                go_roundw
                case rel => exact ⟨a + 1, X, xa, xc, ya, yc, by go_num, by omega, by omega, by omega, hXl, D5, hs5⟩
                case measure => simp [intOf]; omega
          · have hKL : X.kept.length ≤ 200 := by omega
            have hLL := hXl
            obtain ⟨hx, hO, hC, hD⟩ := D5.out hk (by omega)
            have HX := dHide hx
            have HO := dHide hO
            have HC := dHide hC
            have HDD := dHide hD
            obtain ⟨m0, -⟩ := D5.box.2 0 _ rfl
            obtain ⟨m1, -⟩ := D5.box.2 1 _ rfl
            obtain ⟨m2, -⟩ := D5.box.2 2 _ rfl
            obtain ⟨z0, f0⟩ := D5.res.2 0 _ rfl
            obtain ⟨z1, f1⟩ := D5.res.2 1 _ rfl
            obtain ⟨z2, f2⟩ := D5.res.2 2 _ rfl
            have HF := dHide D5.fit
            clear hx hO hC hD D5
            go_wp2
            generalize ((wr.setCell ⟨w.heap.size, 0, none⟩ (.slice xa X.kept.length xc)).setCell ⟨w.heap.size, 1, none⟩ (.slice ya X.late.length yc)).setCell ⟨w.heap.size, 2, none⟩ (.int .i64 X.lock) = V at *
            have q0 := dUnhide HX 0 _ rfl
            have q1 := dUnhide HX 1 _ rfl
            have q2 := dUnhide HX 2 _ rfl
            clear z0 z1 z2 f0 f1 f2 m0 m1 m2
            refine bodyPost_ret (v := .agg #[.slice xa X.kept.length xc, .slice ya X.late.length yc, .int .i64 X.lock]) (by simp [results, Try.results61, go_sem, q0, q1, q2]) rfl ⟨⟨_, rfl, X, dUnhide HO, dUnhide HF, hKL, hLL⟩, dUnhide HC, dUnhide HDD⟩
end Go.Proofs.Ytejmfohkobhidaa
