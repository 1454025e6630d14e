/- Registers drawn: l7DrawRight (printed by tools/mkrgk.py). -/
import Derived.Test.YthndkkjgjhgdnaaGreatDoorGk74
import Derived.Deep.RegionLaw
import Derived.Deep.RegionHeld3
namespace Go.Proofs.YthndkkjgjhgdnaaGreatDoor
open Go.ChangeShapes Go.WideShapes Go.ChangeAt Go.RowKit
set_option linter.unusedVariables false
set_option linter.unusedSimpArgs false
set_option maxRecDepth 100000

variable {W : World} {bk B n bo lo' hi' : Nat} {m m' : Rg} {a a' : Option Addr} {c c' : Nat} {w : World} {ca : Option Addr} {cc : Nat} {ds : List Int} {cop : Int}
theorem D7.take {n' : Nat} (h : D7 w bk ca cc ds cop W B n m a c) (hk : bk < w.heap.size) (hw : ds = [] ∨ blockOf (.slice ca ds.length cc) < w.heap.size) (N : DB W bo lo' hi' m' a' c') (hl : w.heap.size + 3 ≤ lo') (hf : fitD n' m') :
    D7 w bk ca cc ds cop ((W.setCell ⟨w.heap.size + 1 + 1, 0, none⟩ (.slice a' m'.eras.length c')).setCell ⟨w.heap.size + 1 + 1, 1, none⟩ (.int .i64 m'.trim)) W.heap.size n' m' a' c' :=
  ⟨(h.cur.setNew4 (by omega) _ _).setNew4 (by omega) _ _, (h.drawn.setNew (by omega) _ _).setNew (by omega) _ _, (h.cfg.farB (by omega) _).farB (by omega) _,
    Ns.setFar7 (Ns.setFar7 h.ns (by rcases hw with h | h; exact .inl h; exact .inr (by omega)) _) (by rcases hw with h | h; exact .inl h; exact .inr (by omega)) _, (h.res.far (by omega) _).far (by omega) _,
    DB.put (OwK.wide N.own hl N.fit) (N.full.mono hl) (Nat.le_refl _) h.reg.box (.inl (by omega)), hf⟩
theorem D7.lt (h : D7 w bk ca cc ds cop W B n m a c) : w.heap.size + 1 + 1 < W.heap.size := h.reg.lt
set_option maxHeartbeats 16000000 in
theorem l7DrawRight_any (bk : Nat) (ca : Option Addr) (cc : Nat) (ds : List Int) (cop : Int) (w : World) (hc : Cur w bk) (hv : Ns w (.slice ca ds.length cc) ds) (hl : ds.length ≤ 9) (hne : ds = [] ∨ blockOf (.slice ca ds.length cc) ≠ bk) :
    Calls Tryz.prog 29 #[.pointer (some ⟨bk, 0, none⟩), .agg #[.slice ca ds.length cc, .int .i64 cop]] w fun e w' => (∃ m a c, e = .returned (.agg #[.slice a m.eras.length c, .int .i64 m.trim]) ∧ OwEraS w.heap.size w'.heap.size (.slice a m.eras.length c) m.eras w' ∧ Full w' w.heap.size (.slice a m.eras.length c) ∧ fitD 7 m) ∧ Cur w' bk ∧ Drawn bk w w' := by
  have ba : ∀ (w : World) o, Below w.heap.size w (w.alloc o) := fun w o => (Below.refl _ _).alloc (Nat.le_refl _) o
  have hk := hc.lt
  have hw := hv.lt
  have D0 : D7 w bk ca cc ds cop (((w.alloc (.cells #[.slice ca ds.length cc, .int .i64 cop] 26)).alloc (.cells #[.slice none 0 0, .int .i64 0] 29)).alloc (.cells #[.slice none 0 0, .int .i64 0] 29)) (w.heap.size + 3) 0 zeroRg none 0 := by
    have b1 := ba w (.cells #[.slice ca ds.length cc, .int .i64 cop] 26)
    have b2 := ba (w.alloc (.cells #[.slice ca ds.length cc, .int .i64 cop] 26)) (.cells #[.slice none 0 0, .int .i64 0] 29)
    have b3 := ba ((w.alloc (.cells #[.slice ca ds.length cc, .int .i64 cop] 26)).alloc (.cells #[.slice none 0 0, .int .i64 0] 29)) (.cells #[.slice none 0 0, .int .i64 0] 29)
    have e1 : (w.alloc (.cells #[.slice ca ds.length cc, .int .i64 cop] 26)).heap.size = w.heap.size + 1 := by simp
    have e2 : ((w.alloc (.cells #[.slice ca ds.length cc, .int .i64 cop] 26)).alloc (.cells #[.slice none 0 0, .int .i64 0] 29)).heap.size = w.heap.size + 1 + 1 := by simp
    have e3 : (((w.alloc (.cells #[.slice ca ds.length cc, .int .i64 cop] 26)).alloc (.cells #[.slice none 0 0, .int .i64 0] 29)).alloc (.cells #[.slice none 0 0, .int .i64 0] 29)).heap.size = w.heap.size + 3 := by simp
    have bb := belowThen (belowThen b1 b2) b3
    have X := (Bx.new w [.slice ca ds.length cc, .int .i64 cop] 26).below (belowThen b2 b3)
    have R := (BxZ.new (B := w.heap.size) (w.alloc (.cells #[.slice ca ds.length cc, .int .i64 cop] 26)) [.slice none 0 0, .int .i64 0] 29 (by rw [e1]; omega)).below b3
    rw [e1] at R
    have Q := BxZ.new (B := 0) ((w.alloc (.cells #[.slice ca ds.length cc, .int .i64 cop] 26)).alloc (.cells #[.slice none 0 0, .int .i64 0] 29)) [.slice none 0 0, .int .i64 0] 29 (Nat.zero_le _)
    rw [e2] at Q
    have O := (NAp.nil (((w.alloc (.cells #[.slice ca ds.length cc, .int .i64 cop] 26)).alloc (.cells #[.slice none 0 0, .int .i64 0] 29)).alloc (.cells #[.slice none 0 0, .int .i64 0] 29)) (w.heap.size + 3) none).ow
    rw [e3] at O
    exact ⟨hc.below bb, Drawn.of_below bb, X, hv.below bb, R, ⟨Q, O, .inl ⟨none, rfl⟩, by rw [e3]; exact Nat.le_refl _, .inl (by omega)⟩, fitD_zero 0⟩
  clear hc hv
  go_enter Tryz.func29, Tryz.ntmps29
  go_wp2
  have e3 : (((w.alloc (.cells #[.slice ca ds.length cc, .int .i64 cop] 26)).alloc (.cells #[.slice none 0 0, .int .i64 0] 29)).alloc (.cells #[.slice none 0 0, .int .i64 0] 29)).heap.size = w.heap.size + 3 := by simp
  generalize ((w.alloc (.cells #[.slice ca ds.length cc, .int .i64 cop] 26)).alloc (.cells #[.slice none 0 0, .int .i64 0] 29)).alloc (.cells #[.slice none 0 0, .int .i64 0] 29) = w0 at *
  go_loopw [6] (fun x wr => ∃ (k : Nat) (m : Rg) (a : Option Addr) (c : Nat), x = .int .i64 (k : Int) ∧ k ≤ 7 ∧ D7 w bk ca cc ds cop wr wr.heap.size k m a c) (fun x _ => 8 - (intOf x).toNat)
  case atStart => exact ⟨0, zeroRg, none, 0, rfl, Nat.zero_le _, D0.weak (by omega) (Nat.le_refl _) (Nat.le_refl _)⟩
  case round =>
    obtain ⟨k, m, a, c, rfl, hkn, D1⟩ := hrel
    clear D0
    have hwr := D1.lt
    go_wp2_with fail
    refine (l1Below_any bk 7 (by omega) (by omega) _ D1.cur).mono ?_
    rintro r w3 ⟨⟨t, ht, rfl⟩, hc3, hd3⟩
    have hs3 := hd3.size
    have D := (D1.move hk hne hc3 hd3).weak (B' := w3.heap.size) hs3 (Nat.le_refl _) (Nat.le_refl k)
    have hw3 : w.heap.size + 3 ≤ w3.heap.size := by omega
    have hel : m.eras.length ≤ 7 := by have := D.fit.1; omega
    clear D1 hc3 hd3
    by_cases hlt : (k : Int) < (t : Int)
    · have CL := dHide fun W (h : D7 w bk ca cc ds cop W w3.heap.size k m a c) => l7DrawSet_any bk _ ds cop W h.cur h.ns hl hne
      have CP := fun W (h : D7 w bk ca cc ds cop W w3.heap.size k m a c) v2 xs hx hlx => specRegOpen_full _ _ (ds, cop) m v2 xs W ⟨_, rfl, h.ns⟩ h.reg.rd hx hlx h.fit.ok (h.fit.siz (by omega))
      simp only at CP
      replace CP := dHide CP
      have HR : Hid (∀ xs : List Int, xs.length ≤ 40 → (∀ z ∈ xs, -1 ≤ z ∧ z ≤ 9) → fitD (k + 1) (openM ds cop m xs).1) := fun xs h1 h2 => D.fit.opened h1 h2
      have Dd := D.below (Below.refl _ _).drew
      have DdZ := (D.below (ba w3 (.cells #[.slice none 0 0, .int .i64 0] 29))).below (Below.refl _ _).drew
      have BXZ : BxZ (w3.alloc (.cells #[.slice none 0 0, .int .i64 0] 29)).drew w.heap.size w3.heap.size [.slice none 0 0, .int .i64 0] := BxZ.drew' (BxZ.new (B := w.heap.size) w3 [.slice none 0 0, .int .i64 0] 29 (by omega))
      have hZs : w3.heap.size < (w3.alloc (.cells #[.slice none 0 0, .int .i64 0] 29)).drew.heap.size := by
        have e : (w3.alloc (.cells #[.slice none 0 0, .int .i64 0] 29)).heap.size = w3.heap.size + 1 := by simp
        show w3.heap.size < (w3.alloc (.cells #[.slice none 0 0, .int .i64 0] 29)).heap.size
        rw [e]
        exact Nat.lt_succ_self _
      obtain ⟨x0, x1, k0, k1⟩ := D.cells
      have pZ := DdZ.cells
      have pD := Dd.cells
      go_wp2_with fail
      go_cut [7, 9] (fun sv ov wx => ∃ bo lo' hi' m' mb a' c', sv = .pointer (some ⟨bo, 0, none⟩) ∧ ov = .bool mb ∧ w3.heap.size ≤ bo ∧ w.heap.size + 3 ≤ lo' ∧ fitD (k + 1) m' ∧ DB wx bo lo' hi' m' a' c' ∧ D7 w bk ca cc ds cop wx w3.heap.size k m a c)
      case first =>
        go_region_held3 (fun W => (W.cell? ⟨w.heap.size, 0, none⟩ = some (.slice ca ds.length cc) ∧ W.cell? ⟨w.heap.size, 1, none⟩ = some (.int .i64 cop) ∧ W.cell? ⟨w.heap.size + 1 + 1, 0, none⟩ = some (.slice a m.eras.length c) ∧ W.cell? ⟨w.heap.size + 1 + 1, 1, none⟩ = some (.int .i64 m.trim))) (first | with_reducible exact q | with_reducible exact qs | with_reducible exact p | with_reducible exact qa | with_reducible exact qb | with_reducible exact pa | with_reducible exact p' | with_reducible exact pZ | with_reducible exact pD | go_keep)
          (first
            | (go_at_call 59; have D5z' := D5z; (with_reducible show Calls _ _ _ w5 _); refine (dUnhide CP _ D5z u5 zs5 O5.bs (by omega)).mono ?_; rintro r w6 ⟨⟨u6, rfl, O6, F6⟩, b6⟩; obtain ⟨a6, c6, rfl, P6⟩ := O6.shape; have G6 := F6.row; have D6 := D5z.below b6; have BX6 := BX5.below b6; have hbo : w3.heap.size < w5.heap.size := hbo5; have q := D6.cells; have qs := ((D6.set hk hw (Nat.le_refl w3.heap.size) hw3 0 (.slice a6 (openM ds cop m zs5).1.eras.length c6)).set hk hw (Nat.le_refl w3.heap.size) hw3 1 (.int .i64 (openM ds cop m zs5).1.trim)).cells; obtain ⟨z0, f0⟩ := BX6.2 0 _ rfl; obtain ⟨z1, f1⟩ := BX6.2 1 _ rfl; have R6 := dUnhide HR zs5 hz5 A5)
            | (go_at_call 59; have D5' := D5; (with_reducible show Calls _ _ _ w5 _); refine (dUnhide CP _ D5 u5 zs5 O5.bs (by omega)).mono ?_; rintro r w6 ⟨⟨u6, rfl, O6, F6⟩, b6⟩; obtain ⟨a6, c6, rfl, P6⟩ := O6.shape; have G6 := F6.row; have D6 := D5.below b6; have hbo : w3.heap.size ≤ w6.heap.size := Nat.le_trans hbo5 b6.size; have qa := (D6.below (ba w6 (.cells #[.slice none 0 0, .int .i64 0] 29))).cells; have Db := D6.below (ba w6 (.cells #[.slice a6 (openM ds cop m zs5).1.eras.length c6, .int .i64 (openM ds cop m zs5).1.trim] 29)); have qb := Db.cells; have q := D6.cells; have R6 := dUnhide HR zs5 hz5 A5)
            | (go_at_call 59; have D5' := D5; (with_reducible show Calls _ _ _ (w5.alloc _) _); refine (dUnhide CP _ (D5.below (ba w5 (.cells #[.slice none 0 0, .int .i64 0] 29))) u5 zs5 (O5.below (ba w5 (.cells #[.slice none 0 0, .int .i64 0] 29))).bs (by omega)).mono ?_; rintro r w6 ⟨⟨u6, rfl, O6, F6⟩, b6⟩; obtain ⟨a6, c6, rfl, P6⟩ := O6.shape; have G6 := F6.row; have D6 := (D5.below (ba w5 (.cells #[.slice none 0 0, .int .i64 0] 29))).below b6; have BX6 := (BxZ.new (B := w.heap.size) w5 [.slice none 0 0, .int .i64 0] 29 (by omega)).below b6; have hbo : w3.heap.size ≤ w5.heap.size := hbo5; have q := D6.cells; have qs := ((D6.set hk hw hbo5 (by omega) 0 (.slice a6 (openM ds cop m zs5).1.eras.length c6)).set hk hw hbo5 (by omega) 1 (.int .i64 (openM ds cop m zs5).1.trim)).cells; have p' := (D5.below (ba w5 (.cells #[.slice none 0 0, .int .i64 0] 29))).cells; obtain ⟨z0, f0⟩ := BX6.2 0 _ rfl; obtain ⟨z1, f1⟩ := BX6.2 1 _ rfl; have R6 := dUnhide HR zs5 hz5 A5)
            | (go_at_call 60; (with_reducible show Calls _ _ _ (World.drew (World.alloc _ _)) _); refine (dUnhide CL _ DdZ).mono ?_; rintro r w5 ⟨⟨u5, zs5, rfl, O5, hz5, A5⟩, hc5, hd5⟩; have D5z := DdZ.move hk hne hc5 hd5; have BX5 := BXZ.drawn hd5 (show w3.heap.size ≠ bk by omega); have hbo5 : w3.heap.size < w5.heap.size := Nat.lt_of_lt_of_le hZs hd5.size; have p := D5z.cells; clear hc5 hd5)
            | (go_at_call 60; refine (dUnhide CL _ Dd).mono ?_; rintro r w5 ⟨⟨u5, zs5, rfl, O5, hz5, A5⟩, hc5, hd5⟩; have D5 := Dd.move hk hne hc5 hd5; have hbo5 : w3.heap.size ≤ w5.heap.size := hd5.size; have p := D5.cells; have pa := (D5.below (ba w5 (.cells #[.slice none 0 0, .int .i64 0] 29))).cells; clear hc5 hd5))

        all_goals
          go_wp2_with fail
          go_meet
          case rel =>
            first
            | exact ⟨w6.heap.size, w5.heap.size, w6.heap.size, _, _, a6, c6, rfl, rfl, hbo, by omega, R6, DB.made P6 G6 (Nat.le_refl _), Db⟩
            | exact ⟨w5.heap.size, _, w6.heap.size, _, _, a6, c6, rfl, rfl, hbo, by simp; omega, R6, DB.put P6 G6 (Nat.le_refl _) BX6 (.inl (by simp)), (D6.set hk hw hbo (by omega) _ _).set hk hw hbo (by omega) _ _⟩
            | exact ⟨w3.heap.size, w5.heap.size, w6.heap.size, _, _, a6, c6, rfl, rfl, Nat.le_refl _, by omega, R6, DB.put P6 G6 (Nat.le_refl _) BX6 (.inl hbo5), (D6.set hk hw (Nat.le_refl _) (by omega) _ _).set hk hw (Nat.le_refl _) (by omega) _ _⟩
      case rest =>
        obtain ⟨bo, lo', hi', m', mb, a', c', rfl, rfl, hbo, hlo', hR', N2, D2⟩ := hcut
        clear CL CP HR Dd DdZ BXZ hZs x0 x1 k0 k1 D pZ pD
        go_wp2_with fail
        refine (l1Below_any bk 4 (by omega) (by omega) _ D2.cur).mono ?_
        rintro r w4 ⟨⟨x, hx, rfl⟩, hc4, hd4⟩
        have D4 := D2.move hk hne hc4 hd4
        have N4 := N2.drawn hd4 (by omega) (by omega)
        have hs4 : w3.heap.size ≤ w4.heap.size := Nat.le_of_lt (Nat.lt_of_le_of_lt hbo N4.lt)
        have hw5 : w.heap.size + 3 ≤ bo := by omega
        clear D2 N2 hc4 hd4
        by_cases hx0 : x = 0
        · subst hx0
          have CQ := fun W (h : D7 w bk ca cc ds cop W w3.heap.size k m a c) (y : Nat) (hy : y < 5) => specRegClose_full _ _ (ds, cop) m (m.eras.length : Int) (y : Int) ⟨by omega, by omega⟩ ⟨by omega, by omega⟩ W ⟨_, rfl, h.ns⟩ h.reg.rd h.fit.ok (h.fit.siz (by omega))
          simp only at CQ
          replace CQ := dHide CQ
          have HC : Hid (∀ y : Nat, y < 5 → fitD (k + 1) (closeM ds cop m (m.eras.length : Int) (y : Int)).1) := fun y hy => (D4.fit.closed ⟨by omega, by omega⟩).more (by omega)
          have D4d := D4.below (Below.refl _ _).drew
          have N4d := N4.below (Below.refl _ _).drew
          obtain ⟨x0, x1, k0, k1⟩ := D4.cells
          have pD := D4d.cells
          go_wp2_with fail
          go_region_held3 (fun W => (W.cell? ⟨w.heap.size, 0, none⟩ = some (.slice ca ds.length cc) ∧ W.cell? ⟨w.heap.size, 1, none⟩ = some (.int .i64 cop) ∧ W.cell? ⟨w.heap.size + 1 + 1, 0, none⟩ = some (.slice a m.eras.length c) ∧ W.cell? ⟨w.heap.size + 1 + 1, 1, none⟩ = some (.int .i64 m.trim))) (first | with_reducible exact q | with_reducible exact qs | with_reducible exact p | with_reducible exact pD | go_keep)
              (first
                | (go_at_call 61; refine (dUnhide CQ _ D5 y5 hy5).mono ?_; rintro r w6 ⟨⟨u6, rfl, O6, F6⟩, b6⟩; obtain ⟨a6, c6, rfl, P6⟩ := O6.shape; have G6 := F6.row; have D6 := D5.below b6; have N6 := N5.below b6; have hs6 := b6.size; have lt5 := N5.lt; have q := D6.cells; have Ds := (D6.set hk hw hbo hw5 0 (.slice a6 (closeM ds cop m (m.eras.length : Int) (y5 : Int)).1.eras.length c6)).set hk hw hbo hw5 1 (.int .i64 (closeM ds cop m (m.eras.length : Int) (y5 : Int)).1.trim); have qs := Ds.cells; obtain ⟨z0, f0⟩ := N6.box.2 0 _ rfl; obtain ⟨z1, f1⟩ := N6.box.2 1 _ rfl; have R6 := dUnhide HC y5 hy5)
                | (go_at_call 57; refine (l1Below_any bk 5 (by omega) (by omega) _ D4d.cur).mono ?_; rintro r w5 ⟨⟨y5, hy5, rfl⟩, hc5, hd5⟩; have D5 := D4d.move hk hne hc5 hd5; have N5 := N4d.drawn hd5 (by omega) (by omega); have hs5 : w4.heap.size ≤ w5.heap.size := hd5.size; have p := D5.cells; clear hc5 hd5))

          all_goals
            have N8 := DB.put P6 G6 (Nat.le_refl _) N6.box (.inl lt5)
            have hlo2 : w.heap.size + 3 ≤ w5.heap.size := by omega
            clear z0 z1 f0 f1 q qs P6 G6 O6 F6 N6 N5 D5 D6 b6 CQ HC D4d N4d D4 N4 x0 x1 k0 k1 pD p
            generalize closeM ds cop m (m.eras.length : Int) (y5 : Int) = CV at *
            obtain ⟨m2, mb⟩ := CV
            try simp only at N8 Ds R6
            try simp only
            have hsx : w3.heap.size ≤ ((w6.setCell ⟨bo, 0, none⟩ (.slice a6 m2.eras.length c6)).setCell ⟨bo, 1, none⟩ (.int .i64 m2.trim)).heap.size := by simp; omega
            generalize (w6.setCell ⟨bo, 0, none⟩ (.slice a6 m2.eras.length c6)).setCell ⟨bo, 1, none⟩ (.int .i64 m2.trim) = wc at *
            have hlwc := Ds.lt
            obtain ⟨y0, -⟩ := N8.box.2 0 _ rfl
            obtain ⟨y1, -⟩ := N8.box.2 1 _ rfl
            obtain ⟨z0, f0⟩ := Ds.reg.box.2 0 _ rfl
            obtain ⟨z1, f1⟩ := Ds.reg.box.2 1 _ rfl
            have HT := dHide (Ds.take hk hw N8 hlo2 R6)
            have HD := dHide (Ds.weak (B' := wc.heap.size) (n' := k + 1) (by omega) (Nat.le_refl _) (by omega))
            clear Ds N8
            cases mb
            · go_wp2
              go_roundw
              case rel => exact ⟨k + 1, m, a, c, by go_num, by omega, dUnhide HD⟩
              case measure => simp [intOf]; omega
            · go_wp2
              go_roundw
              case rel => exact ⟨k + 1, _, _, _, by go_num, by omega, (dUnhide HT).weak (by simp) (Nat.le_refl _) (Nat.le_refl _)⟩
              case measure => simp [intOf]; omega

        by_cases hx1 : x = 1
        · subst hx1
          have CT := fun W (h : D7 w bk ca cc ds cop W w3.heap.size k m a c) (ya yb : Nat) (ha : ya < 2) (hb : yb < 4) => specRegTrim_full _ _ (ds, cop) m (4294967296 * (1 + (ya : Int)) + (1 + (yb : Int))) ⟨by omega, by omega⟩ W ⟨_, rfl, h.ns⟩ h.reg.rd h.fit.ok (h.fit.siz (by omega))
          simp only at CT
          replace CT := dHide CT
          have HC : Hid (∀ ya yb : Nat, ya < 2 → yb < 4 → fitD (k + 1) (trimR ds cop m (4294967296 * (1 + (ya : Int)) + (1 + (yb : Int)))).1) := fun ya yb h1 h2 => (D4.fit.trimmed ⟨by omega, by omega⟩).more (by omega)
          have D4d := D4.below (Below.refl _ _).drew
          have N4d := N4.below (Below.refl _ _).drew
          obtain ⟨x0, x1, k0, k1⟩ := D4.cells
          have pD := D4d.cells
          go_wp2_with fail
          refine wp_region_noPanic ?_
          refine wp_region_held_drew (S := fun W => (W.cell? ⟨w.heap.size, 0, none⟩ = some (.slice ca ds.length cc) ∧ W.cell? ⟨w.heap.size, 1, none⟩ = some (.int .i64 cop) ∧ W.cell? ⟨w.heap.size + 1 + 1, 0, none⟩ = some (.slice a m.eras.length c) ∧ W.cell? ⟨w.heap.size + 1 + 1, 1, none⟩ = some (.int .i64 m.trim))) (by kernel_rfl) (by first | with_reducible exact qs | with_reducible exact q | with_reducible exact p6 | with_reducible exact p | with_reducible exact pD | go_keep) (fun hHeld => ?_)
          refine wpAnyH_take (i := 0) (oi := { dst := some 45, op := Op.load 26 (Operand.tmp 3), type := 26, pos := "l07_register.go:103", after := #[], guard := none }) (v := ?_) rfl (by kernel_rfl) (by kernel_rfl) (by kernel_rfl) (fun _ _ _ h => h) (Or.inl ⟨by rfl, ?_⟩) (by assumption) ?_
          rotate_left 1
          · intro w hSw
            (try dsimp only at hSw)
            first | (go_simp; done) | (go_simp; with_reducible rfl)
          try simp only [Act.put, List.setIfInBounds_toArray, List.set_cons_zero, List.set_cons_succ]
          refine wpAnyH_take (i := 1) (oi := { dst := some 46, op := Op.load 29 (Operand.tmp 5), type := 29, pos := "l07_register.go:103", after := #[], guard := none }) (v := ?_) rfl (by kernel_rfl) (by kernel_rfl) (by kernel_rfl) (fun _ _ _ h => h) (Or.inl ⟨by rfl, ?_⟩) (by assumption) ?_
          rotate_left 1
          · intro w hSw
            (try dsimp only at hSw)
            first | (go_simp; done) | (go_simp; with_reducible rfl)
          try simp only [Act.put, List.setIfInBounds_toArray, List.set_cons_zero, List.set_cons_succ]
          refine wpAnyH_take (i := 2) (oi := { dst := some 47, op := Op.move (Operand.tmp 0), type := 61, pos := "l07_register.go:103", after := #[], guard := none }) (v := ?_) rfl (by kernel_rfl) (by kernel_rfl) (by kernel_rfl) (fun _ _ _ h => h) (Or.inl ⟨by rfl, ?_⟩) (by assumption) ?_
          rotate_left 1
          · intro w hSw
            (try dsimp only at hSw)
            first | (go_simp; done) | (go_simp; with_reducible rfl)
          try simp only [Act.put, List.setIfInBounds_toArray, List.set_cons_zero, List.set_cons_succ]
          refine wpAnyH_take (i := 5) (oi := { dst := some 50, op := Op.move (Operand.tmp 0), type := 61, pos := "l07_register.go:103", after := #[], guard := none }) (v := ?_) rfl (by kernel_rfl) (by kernel_rfl) (by kernel_rfl) (fun _ _ _ h => h) (Or.inl ⟨by rfl, ?_⟩) (by assumption) ?_
          rotate_left 1
          · intro w hSw
            (try dsimp only at hSw)
            first | (go_simp; done) | (go_simp; with_reducible rfl)
          try simp only [Act.put, List.setIfInBounds_toArray, List.set_cons_zero, List.set_cons_succ]
          refine wpAnyH_ready (rs := [3]) (by kernel_rfl) (by simp) ?_
          refine AllReadyH.cons (o := { dst := some 48, op := Op.call { callee := Callee.value (Operand.func 57), args := #[Operand.tmp 47, Operand.const (Value.int IntKind.i64 2)], argTypes := #[61, 3] }, type := 3, pos := "l07_register.go:103", after := #[{ on := 2, ground := Ground.data }], guard := none }) rfl (fun K hK => ?_) AllReadyH.nil
          go_simp
          refine (l1Below_any bk 2 (by omega) (by omega) _ D4d.cur).mono ?_
          rintro r w5 ⟨⟨ya, hya, rfl⟩, hc5, hd5⟩
          have D5 := D4d.move hk hne hc5 hd5
          have N5 := N4d.drawn hd5 (by omega) (by omega)
          have hs5 : w4.heap.size ≤ w5.heap.size := hd5.size
          have p := D5.cells
          have hwa : IntKind.i64.wrap (1 + (ya : Int)) = 1 + (ya : Int) := by rw [IntKind.wrap_i64]; omega
          clear hc5 hd5
          (try go_wp2_with fail)
          refine hK.out _ _ (by first | with_reducible exact qs | with_reducible exact q | with_reducible exact p6 | with_reducible exact p | with_reducible exact pD | go_keep) (fun hHeld => ?_)
          clear hK K
          try simp only [Act.put, List.setIfInBounds_toArray, List.set_cons_zero, List.set_cons_succ]
          refine wpAnyH_take (i := 4) (oi := { dst := some 49, op := Op.binOp BinOp.add 3 (Operand.const (Value.int IntKind.i64 1)) (Operand.tmp 48) 3, type := 3, pos := "l07_register.go:103", after := #[{ on := 3, ground := Ground.data }], guard := none }) (v := ?_) rfl (by kernel_rfl) (by kernel_rfl) (by kernel_rfl) (fun _ _ _ h => h) (Or.inl ⟨by rfl, ?_⟩) (by assumption) ?_
          rotate_left 1
          · intro w hSw
            (try dsimp only at hSw)
            first | (go_simp; done) | (go_simp; with_reducible rfl)
          try simp only [Act.put, List.setIfInBounds_toArray, List.set_cons_zero, List.set_cons_succ]
          refine wpAnyH_ready (rs := [6]) (by kernel_rfl) (by simp) ?_
          refine AllReadyH.cons (o := { dst := some 51, op := Op.call { callee := Callee.value (Operand.func 57), args := #[Operand.tmp 50, Operand.const (Value.int IntKind.i64 4)], argTypes := #[61, 3] }, type := 3, pos := "l07_register.go:103", after := #[{ on := 5, ground := Ground.data }, { on := 3, ground := Ground.chain }], guard := none }) rfl (fun K hK => ?_) AllReadyH.nil
          go_simp
          refine (l1Below_any bk 4 (by omega) (by omega) _ D5.cur).mono ?_
          rintro r w6 ⟨⟨yb, hyb, rfl⟩, hc6, hd6⟩
          have D6' := D5.move hk hne hc6 hd6
          have N6' := N5.drawn hd6 (by omega) (by omega)
          have hs6 : w5.heap.size ≤ w6.heap.size := hd6.size
          have p6 := D6'.cells
          have hwb : IntKind.i64.wrap (1 + (yb : Int)) = 1 + (yb : Int) := by rw [IntKind.wrap_i64]; omega
          clear hc6 hd6
          (try go_wp2_with fail)
          refine hK.out _ _ (by first | with_reducible exact qs | with_reducible exact q | with_reducible exact p6 | with_reducible exact p | with_reducible exact pD | go_keep) (fun hHeld => ?_)
          clear hK K
          try simp only [Act.put, List.setIfInBounds_toArray, List.set_cons_zero, List.set_cons_succ]
          refine wpAnyH_take (i := 7) (oi := { dst := some 52, op := Op.binOp BinOp.add 3 (Operand.const (Value.int IntKind.i64 1)) (Operand.tmp 51) 3, type := 3, pos := "l07_register.go:103", after := #[{ on := 6, ground := Ground.data }], guard := none }) (v := ?_) rfl (by kernel_rfl) (by kernel_rfl) (by kernel_rfl) (fun _ _ _ h => h) (Or.inl ⟨by rfl, ?_⟩) (by assumption) ?_
          rotate_left 1
          · intro w hSw
            (try dsimp only at hSw)
            first | (go_simp; done) | (go_simp; with_reducible rfl)
          try simp only [Act.put, List.setIfInBounds_toArray, List.set_cons_zero, List.set_cons_succ]
          refine wpAnyH_ready (rs := [8]) (by kernel_rfl) (by simp) ?_
          refine AllReadyH.cons (o := { dst := some 53, op := Op.call { callee := Callee.value (Operand.func 63), args := #[Operand.tmp 49, Operand.tmp 52], argTypes := #[3, 3] }, type := 3, pos := "l07_register.go:103", after := #[{ on := 4, ground := Ground.data }, { on := 7, ground := Ground.data }, { on := 6, ground := Ground.chain }], guard := none }) rfl (fun K hK => ?_) AllReadyH.nil
          go_simp
          (try rw [hwa])
          (try rw [hwb])
          refine (l1Place_in (1 + (ya : Int)) (1 + (yb : Int)) (by omega) (by omega) (by omega) (by omega) _).mono ?_
          rintro e w' ⟨rfl, rfl⟩
          (try go_wp2_with fail)
          refine hK.out _ _ (by first | with_reducible exact qs | with_reducible exact q | with_reducible exact p6 | with_reducible exact p | with_reducible exact pD | go_keep) (fun hHeld => ?_)
          clear hK K
          try simp only [Act.put, List.setIfInBounds_toArray, List.set_cons_zero, List.set_cons_succ]
          refine wpAnyH_ready (rs := [9]) (by kernel_rfl) (by simp) ?_
          refine AllReadyH.cons (o := { dst := some 54, op := Op.call { callee := Callee.value (Operand.func 62), args := #[Operand.tmp 45, Operand.tmp 46, Operand.tmp 53], argTypes := #[26, 29, 3] }, type := 34, pos := "l07_register.go:103", after := #[{ on := 0, ground := Ground.data }, { on := 1, ground := Ground.data }, { on := 8, ground := Ground.data }, { on := 8, ground := Ground.chain }], guard := none }) rfl (fun K hK => ?_) AllReadyH.nil
          go_simp
          refine (dUnhide CT _ D6' ya yb hya hyb).mono ?_
          rintro r w7 ⟨⟨u6, rfl, O6, F6⟩, b7⟩
          obtain ⟨a6, c6, rfl, P6⟩ := O6.shape
          have G6 := F6.row
          have D7' := D6'.below b7
          have N7 := N6'.below b7
          have hs7 := b7.size
          have lt6 := N6'.lt
          have q := D7'.cells
          have Ds := (D7'.set hk hw hbo hw5 0 (.slice a6 (trimR ds cop m (4294967296 * (1 + (ya : Int)) + (1 + (yb : Int)))).1.eras.length c6)).set hk hw hbo hw5 1 (.int .i64 (trimR ds cop m (4294967296 * (1 + (ya : Int)) + (1 + (yb : Int)))).1.trim)
          have qs := Ds.cells
          obtain ⟨z0, f0⟩ := N7.box.2 0 _ rfl
          obtain ⟨z1, f1⟩ := N7.box.2 1 _ rfl
          have R6 := dUnhide HC ya yb hya hyb
          (try go_wp2_with fail)
          refine hK.out _ _ (by first | with_reducible exact qs | with_reducible exact q | with_reducible exact p6 | with_reducible exact p | with_reducible exact pD | go_keep) (fun hHeld => ?_)
          clear hK K
          try simp only [Act.put, List.setIfInBounds_toArray, List.set_cons_zero, List.set_cons_succ]
          refine wpAnyH_take (i := 10) (oi := { dst := some 44, op := Op.move (Operand.tmp 54), type := 34, pos := "l07_register.go:103", after := #[{ on := 9, ground := Ground.data }], guard := none }) (v := ?_) rfl (by kernel_rfl) (by kernel_rfl) (by kernel_rfl) (fun _ _ _ h => h) (Or.inl ⟨by rfl, ?_⟩) (by assumption) ?_
          rotate_left 1
          · intro w hSw
            (try dsimp only at hSw)
            first | (go_simp; done) | (go_simp; with_reducible rfl)
          try simp only [Act.put, List.setIfInBounds_toArray, List.set_cons_zero, List.set_cons_succ]
          refine wpAnyH_take (i := 11) (oi := { dst := some 55, op := Op.extract (Operand.tmp 44) 0, type := 29, pos := "l07_register.go:103", after := #[{ on := 10, ground := Ground.data }], guard := none }) (v := ?_) rfl (by kernel_rfl) (by kernel_rfl) (by kernel_rfl) (fun _ _ _ h => h) (Or.inl ⟨by rfl, ?_⟩) (by assumption) ?_
          rotate_left 1
          · intro w hSw
            (try dsimp only at hSw)
            first | (go_simp; done) | (go_simp; with_reducible rfl)
          try simp only [Act.put, List.setIfInBounds_toArray, List.set_cons_zero, List.set_cons_succ]
          refine wpAnyH_take (i := 12) (oi := { dst := some 56, op := Op.extract (Operand.tmp 44) 1, type := 4, pos := "l07_register.go:103", after := #[{ on := 10, ground := Ground.data }, { on := 13, ground := Ground.gcOnly Departure.lateStores }], guard := none }) (v := ?_) rfl (by kernel_rfl) (by kernel_rfl) (by kernel_rfl) (fun _ _ _ h => h) (Or.inl ⟨by rfl, ?_⟩) (by assumption) ?_
          rotate_left 1
          · intro w hSw
            (try dsimp only at hSw)
            first | (go_simp; done) | (go_simp; with_reducible rfl)
          try simp only [Act.put, List.setIfInBounds_toArray, List.set_cons_zero, List.set_cons_succ]
          refine wpAnyH_ready (rs := [13]) (by kernel_rfl) (by simp) ?_
          refine AllReadyH.cons (o := { dst := none, op := Op.store 29 (Operand.tmp 7) (Operand.tmp 55), type := 0, pos := "l07_register.go:103", after := #[{ on := 11, ground := Ground.data }, { on := 9, ground := Ground.chain }, { on := 0, ground := Ground.phase }, { on := 1, ground := Ground.phase }, { on := 2, ground := Ground.phase }, { on := 3, ground := Ground.phase }, { on := 4, ground := Ground.phase }, { on := 5, ground := Ground.phase }, { on := 6, ground := Ground.phase }, { on := 7, ground := Ground.phase }, { on := 8, ground := Ground.phase }, { on := 9, ground := Ground.phase }, { on := 10, ground := Ground.phase }, { on := 11, ground := Ground.phase }, { on := 12, ground := Ground.textOnly Departure.lateStores }], guard := none }) rfl (fun K hK => ?_) AllReadyH.nil
          go_simp
          refine hK.out _ _ (by first | with_reducible exact qs | with_reducible exact q | with_reducible exact p6 | with_reducible exact p | with_reducible exact pD | go_keep) (fun hHeld => ?_)
          clear hK K
          try simp only [Act.put, List.setIfInBounds_toArray, List.set_cons_zero, List.set_cons_succ]
          refine wpAnyH_take (i := 14) (oi := { dst := some 9, op := Op.assign (Operand.tmp 56), type := 4, pos := "l07_register.go:103", after := #[{ on := 12, ground := Ground.data }, { on := 13, ground := Ground.chain }, { on := 0, ground := Ground.phase }, { on := 1, ground := Ground.phase }, { on := 2, ground := Ground.phase }, { on := 3, ground := Ground.phase }, { on := 4, ground := Ground.phase }, { on := 5, ground := Ground.phase }, { on := 6, ground := Ground.phase }, { on := 7, ground := Ground.phase }, { on := 8, ground := Ground.phase }, { on := 9, ground := Ground.phase }, { on := 10, ground := Ground.phase }, { on := 11, ground := Ground.phase }, { on := 12, ground := Ground.phase }, { on := 13, ground := Ground.phase }], guard := none }) (v := ?_) rfl (by kernel_rfl) (by kernel_rfl) (by kernel_rfl) (fun _ _ _ h => h) (Or.inl ⟨by rfl, ?_⟩) (by assumption) ?_
          rotate_left 1
          · intro w hSw
            (try dsimp only at hSw)
            first | (go_simp; done) | (go_simp; with_reducible rfl)
          try simp only [Act.put, List.setIfInBounds_toArray, List.set_cons_zero, List.set_cons_succ]
          refine wpAnyH_done (by kernel_rfl) ?_ _
          refine NoPanic.normal ?_
          skip
          all_goals
            have N8 := DB.put P6 G6 (Nat.le_refl _) N7.box (.inl lt6)
            have hlo2 : w.heap.size + 3 ≤ w6.heap.size := by omega
            clear z0 z1 f0 f1 q qs P6 G6 O6 F6 N7 N6' D6' D7' b7 CT HC D4d N4d D4 N4 x0 x1 k0 k1 pD p p6
            generalize trimR ds cop m (4294967296 * (1 + (ya : Int)) + (1 + (yb : Int))) = CV at *
            obtain ⟨m2, mb⟩ := CV
            try simp only at N8 Ds R6
            try simp only
            have hsx : w3.heap.size ≤ ((w7.setCell ⟨bo, 0, none⟩ (.slice a6 m2.eras.length c6)).setCell ⟨bo, 1, none⟩ (.int .i64 m2.trim)).heap.size := by simp; omega
            generalize (w7.setCell ⟨bo, 0, none⟩ (.slice a6 m2.eras.length c6)).setCell ⟨bo, 1, none⟩ (.int .i64 m2.trim) = wc at *
            have hlwc := Ds.lt
            obtain ⟨y0, -⟩ := N8.box.2 0 _ rfl
            obtain ⟨y1, -⟩ := N8.box.2 1 _ rfl
            obtain ⟨z0, f0⟩ := Ds.reg.box.2 0 _ rfl
            obtain ⟨z1, f1⟩ := Ds.reg.box.2 1 _ rfl
            have HT := dHide (Ds.take hk hw N8 hlo2 R6)
            have HD := dHide (Ds.weak (B' := wc.heap.size) (n' := k + 1) (by omega) (Nat.le_refl _) (by omega))
            clear Ds N8
            cases mb
            · go_wp2
              go_roundw
              case rel => exact ⟨k + 1, m, a, c, by go_num, by omega, dUnhide HD⟩
              case measure => simp [intOf]; omega
            · go_wp2
              go_roundw
              case rel => exact ⟨k + 1, _, _, _, by go_num, by omega, (dUnhide HT).weak (by simp) (Nat.le_refl _) (Nat.le_refl _)⟩
              case measure => simp [intOf]; omega

        have hb0 : ((x : Int) == 0) = false := by simp; omega
        have hb1 : ((x : Int) == 1) = false := by simp; omega
        have hlw4 := D4.lt
        obtain ⟨y0, -⟩ := N4.box.2 0 _ rfl
        obtain ⟨y1, -⟩ := N4.box.2 1 _ rfl
        obtain ⟨z0, f0⟩ := D4.reg.box.2 0 _ rfl
        obtain ⟨z1, f1⟩ := D4.reg.box.2 1 _ rfl
        have HT := dHide (D4.take hk hw N4 hlo' hR')
        have HD := dHide (D4.weak (B' := w4.heap.size) (n' := k + 1) (by omega) (Nat.le_refl _) (by omega))
        clear D4 N4
        cases mb
        · go_wp2
          go_roundw
          case rel => exact ⟨k + 1, m, a, c, by go_num, by omega, dUnhide HD⟩
          case measure => simp [intOf]; omega
        · go_wp2
          go_roundw
          case rel => exact ⟨k + 1, _, _, _, by go_num, by omega, (dUnhide HT).weak (by simp) (Nat.le_refl _) (Nat.le_refl _)⟩
          case measure => simp [intOf]; omega
    · obtain ⟨z0, f0⟩ := D.res.2 0 _ rfl
      obtain ⟨z1, f1⟩ := D.res.2 1 _ rfl
      obtain ⟨-, -, k0, k1⟩ := D.cells
      have ZZ := dHide ((D.res.put 0 (.slice a m.eras.length c)).put 1 (.int .i64 m.trim))
      have OO := dHide (OwK.far (OwK.far D.reg.own (b := w.heap.size + 1) (o := 0) (by omega) (.slice a m.eras.length c)) (b := w.heap.size + 1) (o := 1) (by omega) (.int .i64 m.trim))
      have FF := dHide ((D.reg.full.set (w.heap.size + 1) 0 (.slice a m.eras.length c)).set (w.heap.size + 1) 1 (.int .i64 m.trim))
      have CC := dHide ((D.cur.setNew4 (b := w.heap.size + 1) (by omega) 0 (.slice a m.eras.length c)).setNew4 (b := w.heap.size + 1) (by omega) 1 (.int .i64 m.trim))
      have DD := dHide ((D.drawn.setNew (b := w.heap.size + 1) (by omega) 0 (.slice a m.eras.length c)).setNew (b := w.heap.size + 1) (by omega) 1 (.int .i64 m.trim))
      have RR := dHide (D.fit.more hkn)
      have hV : w3.heap.size = ((w3.setCell ⟨w.heap.size + 1, 0, none⟩ (.slice a m.eras.length c)).setCell ⟨w.heap.size + 1, 1, none⟩ (.int .i64 m.trim)).heap.size := by simp
      clear D
      go_wp2_with fail
      generalize (w3.setCell ⟨w.heap.size + 1, 0, none⟩ (.slice a m.eras.length c)).setCell ⟨w.heap.size + 1, 1, none⟩ (.int .i64 m.trim) = V at *
      have q0 := ((dUnhide ZZ).2 0 _ rfl).1
      have q1 := ((dUnhide ZZ).2 1 _ rfl).1
      rw [hV] at OO
      refine bodyPost_ret (v := .agg #[.slice a m.eras.length c, .int .i64 m.trim]) (by simp [results, Tryz.results29, go_sem, q0, q1]) rfl ⟨⟨m, a, c, rfl, OwK.wide (dUnhide OO) (by omega) (Nat.le_refl _), (dUnhide FF).mono (by omega), dUnhide RR⟩, dUnhide CC, dUnhide DD⟩
end Go.Proofs.YthndkkjgjhgdnaaGreatDoor
