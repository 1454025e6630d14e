/- Writers drawn: l8DrawRight (printed by tools/mkdwb.py). -/
import Derived.Test.YthndkkjgjhgdnaaGreatDoorGk73
import Derived.Deep.RegionLaw
import Derived.Deep.RegionHeld3
import Derived.Deep.DeepCutAuto
namespace Go.Proofs.YthndkkjgjhgdnaaGreatDoor
open Go.ChangeShapes Go.WideShapes Go.ChangeAt Go.RowKit
set_option linter.unusedVariables false
set_option linter.unusedSimpArgs false
set_option maxRecDepth 100000

theorem l1Below_all (bk : Nat) (n : Nat) (h2 : n ≤ 4611686018427387904) (w : World) (hc : Cur w bk) :
    Calls Tryz.prog 57 #[.pointer (some ⟨bk, 0, none⟩), .int .i64 n] w fun e w' => (∃ x : Nat, x ≤ n ∧ e = .returned (.int .i64 (x : Int))) ∧ Cur w' bk ∧ Drawn bk w w' := by
  rcases Nat.eq_zero_or_pos n with h | h
  · subst h
    have H := dHide hc
    clear hc
    go_enter Tryz.func57, Tryz.ntmps57
    go_wp2
    go_ret
    exact ⟨⟨0, Nat.le_refl _, rfl⟩, dUnhide H, Drawn.refl _ _⟩
  · refine (l1Below_any bk n h h2 w hc).mono ?_
    rintro e w' ⟨⟨x, hx, rfl⟩, h1, h2⟩
    exact ⟨⟨x, by omega, rfl⟩, h1, h2⟩
set_option maxHeartbeats 16000000 in
theorem l8DrawRight_any (bk : Nat) (ca : Option Addr) (cc : Nat) (ds : List Int) (cop : Int) (w : World) (hc : Cur w bk) (hv : Ns w (.slice ca ds.length cc) ds) (hl : ds.length ≤ 9) (hne : ds = [] ∨ blockOf (.slice ca ds.length cc) ≠ bk) :
    Calls Tryz.prog 42 #[.pointer (some ⟨bk, 0, none⟩), .agg #[.slice ca ds.length cc, .int .i64 cop]] w fun e w' => (∃ m a c, e = .returned (.agg #[.int .i64 m.epoch, .slice a m.words.length c]) ∧ WIn w.heap.size w'.heap.size (.slice a m.words.length c) m.words w' ∧ fitW 14 m) ∧ Cur w' bk ∧ Drawn bk w w' := by
  have ba : ∀ (w : World) o, Below w.heap.size w (w.alloc o) := fun w o => (Below.refl _ _).alloc (Nat.le_refl _) o
  have hk := hc.lt
  have hw := hv.lt
  have b1 := ba w (.cells #[.slice ca ds.length cc, .int .i64 cop] 26)
  have b2 := ba (w.alloc (.cells #[.slice ca ds.length cc, .int .i64 cop] 26)) (.cells #[.int .i64 0, .slice none 0 0] 40)
  have bb := belowThen b1 b2
  have X0 := dHide ((Bx.new w [.slice ca ds.length cc, .int .i64 cop] 26).below b2)
  have R0 := BxZ.new (B := w.heap.size) (w.alloc (.cells #[.slice ca ds.length cc, .int .i64 cop] 26)) [.int .i64 0, .slice none 0 0] 40 (by simp)
  rw [show (w.alloc (.cells #[.slice ca ds.length cc, .int .i64 cop] 26)).heap.size = w.heap.size + 1 by simp] at R0
  replace R0 := dHide R0
  have C0 := hc.below bb
  have N0 := dHide (hv.below bb)
  have e3 : Hid (((w.alloc (.cells #[.slice ca ds.length cc, .int .i64 cop] 26)).alloc (.cells #[.int .i64 0, .slice none 0 0] 40)).heap.size = w.heap.size + 2) := by simp [Hid]
  clear hc hv b1 b2
  go_enter Tryz.func42, Tryz.ntmps42
  go_wp2_with fail
  generalize (w.alloc (.cells #[.slice ca ds.length cc, .int .i64 cop] 26)).alloc (.cells #[.int .i64 0, .slice none 0 0] 40) = w0 at *
  have h3 := dUnhide e3
  refine (l1Below_any bk 4 (by omega) (by omega) _ C0).mono ?_
  rintro r w1 ⟨⟨x, hx, rfl⟩, hc1, hd1⟩
  have hs1 := hd1.size
  have hwx : IntKind.i64.wrap (1 + (x : Int)) = 1 + (x : Int) := by rw [IntKind.wrap_i64]; omega
  have ht : w.heap.size + 2 ≤ w1.heap.size := by omega
  have D0 : Hid (D8 w bk w1.heap.size ca cc ds cop (w1.alloc (.cells #[.int .i64 (1 + (x : Int)), .slice none 0 0] 40)) (w1.heap.size + 1) 0 ⟨1 + (x : Int), []⟩ none 0) := by
    have b3 := ba w1 (.cells #[.int .i64 (1 + (x : Int)), .slice none 0 0] 40)
    have es : (w1.alloc (.cells #[.int .i64 (1 + (x : Int)), .slice none 0 0] 40)).heap.size = w1.heap.size + 1 := by simp
    refine ⟨hc1.below b3, (Drawn.of_below bb).trans (hd1.trans (Drawn.of_below b3)), ((dUnhide X0).drawn hd1 (by omega)).below b3, ((dUnhide N0).drawn hd1 hne).below b3, ((dUnhide R0).drawn hd1 (by omega)).below b3, ⟨BxZ.new (B := 0) w1 [.int .i64 (1 + (x : Int)), .slice none 0 0] 40 (Nat.zero_le _), ⟨[], rfl, ?_, by simp [touch], fun p hp => by cases hp⟩, by omega, .inl (by omega)⟩, ⟨Nat.zero_le _, (fun e he => by cases he), by simp only; omega, by simp only; omega⟩⟩
    exact ⟨.inl ⟨rfl, none, rfl⟩, (fun p h => by cases h), (fun i j hi => by simp at hi), fun i hi => by simp at hi⟩
  clear X0 R0 N0 C0 bb hc1 hd1
  go_wp2
  have es : (w1.alloc (.cells #[.int .i64 (1 + (x : Int)), .slice none 0 0] 40)).heap.size = w1.heap.size + 1 := by simp
  generalize w1.alloc (.cells #[.int .i64 (1 + (x : Int)), .slice none 0 0] 40) = w2 at *
  generalize w1.heap.size = bt at *
  go_loopw [6] (fun y wr => ∃ (k : Nat) (m : Wt) (a : Option Addr) (c : Nat), y = .int .i64 (k : Int) ∧ k ≤ 14 ∧ D8 w bk bt ca cc ds cop wr wr.heap.size k m a c) (fun y _ => 15 - (intOf y).toNat)
  case atStart => exact ⟨0, _, none, 0, rfl, Nat.zero_le _, (dUnhide D0).weak (by omega) (Nat.le_refl _) (Nat.le_refl _)⟩
  case round =>
    obtain ⟨k, m, a, c, rfl, hkn, D1⟩ := hrel
    clear D0
    have hwr := D1.lt
    go_wp2_with fail
    refine (l1Below_any bk 14 (by omega) (by omega) _ D1.cur).mono ?_
    rintro r w3 ⟨⟨t, htn, rfl⟩, hc3, hd3⟩
    have hs3 := hd3.size
    have D := (D1.move hk ht hne hc3 hd3).weak (B' := w3.heap.size) hs3 (Nat.le_refl _) (Nat.le_refl k)
    have hw3 : bt + 1 ≤ w3.heap.size := by omega
    have hel : m.words.length ≤ 14 := by have := D.fit.1; omega
    clear D1 hc3 hd3
    by_cases hlt : (k : Int) < (t : Int)
    · have CP := fun W (h : D8 w bk bt ca cc ds cop W w3.heap.size k m a c) (d : ByteArray) (hd : d.size ≤ 41) => specAdd_any _ _ (ds, cop) m d W ⟨_, rfl, h.ns⟩ h.wri.rd (h.fit.siz (by omega)) (by omega)
      simp only at CP
      replace CP := dHide CP
      have HR : Hid (∀ d : ByteArray, d.size ≤ 41 → fitW (k + 1) (addM ds cop m d).1) := fun d h1 => D.fit.added h1
      have pD := D.cells
      have Dc := D.below (Below.refl _ _).drew
      have pDd := Dc.cells
      go_wp2_with fail
      go_cut [7, 9] (fun sv ov wx => ∃ bo lo' hi' m' mb a' c', sv = .pointer (some ⟨bo, 0, none⟩) ∧ ov = .bool mb ∧ w3.heap.size ≤ bo ∧ bt + 1 ≤ lo' ∧ fitW (k + 1) m' ∧ DV wx bo lo' hi' m' a' c' ∧ D8 w bk bt ca cc ds cop wx w3.heap.size k m a c)
      case first =>
        refine wp_region_noPanic ?_
        refine wp_region_held_drew (S := fun W => W.cell? ⟨w.heap.size, 0, none⟩ = some (.slice ca ds.length cc) ∧ W.cell? ⟨w.heap.size, 1, none⟩ = some (.int .i64 cop) ∧ W.cell? ⟨bt, 0, none⟩ = some (.int .i64 m.epoch) ∧ W.cell? ⟨bt, 1, none⟩ = some (.slice a m.words.length c)) (by kernel_rfl) (by first | with_reducible exact Dc.cells | with_reducible exact pDd | go_keep) (fun hHeld => ?_)
        have hsz : w3.heap.size ≤ w3.drew.heap.size := Nat.le_refl _
        generalize w3.drew = wd at *
        refine wpAnyH_take (i := 0) (oi := { dst := some 21, op := Op.load 26 (Operand.tmp 3), type := 26, pos := "l08_writer.go:81", after := #[], guard := none }) (v := ?_) rfl (by kernel_rfl) (by kernel_rfl) (by kernel_rfl) (fun _ _ _ h => h) (Or.inl ⟨by rfl, ?_⟩) (by assumption) ?_
        rotate_left 1
        · intro w hSw
          (try dsimp only at hSw)
          first | (go_simp; done) | (go_simp; with_reducible rfl)
        try simp only [Act.put, List.setIfInBounds_toArray, List.set_cons_zero, List.set_cons_succ]
        refine wpAnyH_take (i := 1) (oi := { dst := some 22, op := Op.load 40 (Operand.tmp 5), type := 40, pos := "l08_writer.go:81", after := #[], guard := none }) (v := ?_) rfl (by kernel_rfl) (by kernel_rfl) (by kernel_rfl) (fun _ _ _ h => h) (Or.inl ⟨by rfl, ?_⟩) (by assumption) ?_
        rotate_left 1
        · intro w hSw
          (try dsimp only at hSw)
          first | (go_simp; done) | (go_simp; with_reducible rfl)
        try simp only [Act.put, List.setIfInBounds_toArray, List.set_cons_zero, List.set_cons_succ]
        refine wpAnyH_take (i := 2) (oi := { dst := some 23, op := Op.move (Operand.tmp 0), type := 61, pos := "l08_writer.go:81", after := #[], guard := none }) (v := ?_) rfl (by kernel_rfl) (by kernel_rfl) (by kernel_rfl) (fun _ _ _ h => h) (Or.inl ⟨by rfl, ?_⟩) (by assumption) ?_
        rotate_left 1
        · intro w hSw
          (try dsimp only at hSw)
          first | (go_simp; done) | (go_simp; with_reducible rfl)
        try simp only [Act.put, List.setIfInBounds_toArray, List.set_cons_zero, List.set_cons_succ]
        refine wpAnyH_ready (rs := [3, 10]) (by kernel_rfl) (by simp) ?_
        refine AllReadyH.cons (o := { dst := some 24, op := Op.buildSlice 128 3 #[(0, Operand.const (Value.string { data := #[] })), (1, Operand.const (Value.string { data := #[97] })), (2, Operand.const (Value.string { data := #[98, 99] }))], type := 128, pos := "l08_writer.go:81", after := #[], guard := none }) rfl (fun K hK => ?_) (AllReadyH.cons (o := { dst := some 7, op := Op.alloc 40, type := 0, pos := "l08_writer.go:81", after := #[], guard := none }) rfl (fun K hK => ?_) AllReadyH.nil)
        · go_simp
          have SL : Bx (wd.alloc (.cells #[.string ⟨#[]⟩, .string ⟨#[97]⟩, .string ⟨#[98, 99]⟩] 9)) wd.heap.size [.string ⟨#[]⟩, .string ⟨#[97]⟩, .string ⟨#[98, 99]⟩] := Bx.new wd [.string ⟨#[]⟩, .string ⟨#[97]⟩, .string ⟨#[98, 99]⟩] 9
          have es3 : (wd.alloc (.cells #[.string ⟨#[]⟩, .string ⟨#[97]⟩, .string ⟨#[98, 99]⟩] 9)).heap.size = wd.heap.size + 1 := by simp
          replace Dc := Dc.below (ba wd (.cells #[.string ⟨#[]⟩, .string ⟨#[97]⟩, .string ⟨#[98, 99]⟩] 9))
          try replace NZ := NZ.below (ba wd (.cells #[.string ⟨#[]⟩, .string ⟨#[97]⟩, .string ⟨#[98, 99]⟩] 9))
          have hb3 : w3.heap.size ≤ wd.heap.size := hsz
          replace hsz : w3.heap.size ≤ (wd.alloc (.cells #[.string ⟨#[]⟩, .string ⟨#[97]⟩, .string ⟨#[98, 99]⟩] 9)).heap.size := by omega
          clear es3
          generalize wd.heap.size = b3 at *
          generalize wd.alloc (.cells #[.string ⟨#[]⟩, .string ⟨#[97]⟩, .string ⟨#[98, 99]⟩] 9) = wd at *
          refine hK.out _ _ (by first | with_reducible exact Dc.cells | with_reducible exact pDd | go_keep) (fun hHeld => ?_)
          clear hK K
          try simp only [Act.put, List.setIfInBounds_toArray, List.set_cons_zero, List.set_cons_succ]
          refine wpAnyH_ready (rs := [4, 10]) (by kernel_rfl) (by simp) ?_
          refine AllReadyH.cons (o := { dst := some 25, op := Op.call { callee := Callee.value (Operand.func 76), args := #[Operand.tmp 23, Operand.tmp 24], argTypes := #[61, 128] }, type := 9, pos := "l08_writer.go:81", after := #[{ on := 2, ground := Ground.data }, { on := 3, ground := Ground.data }], guard := none }) rfl (fun K hK => ?_) (AllReadyH.cons (o := { dst := some 7, op := Op.alloc 40, type := 0, pos := "l08_writer.go:81", after := #[], guard := none }) rfl (fun K hK => ?_) AllReadyH.nil)
          · go_simp
            refine (l1Pick_any bk b3 0 3 [⟨#[]⟩, ⟨#[97]⟩, ⟨#[98, 99]⟩] wd (by decide) (by decide) (fun i hi => by
              match i, hi with
              | 0, _ => exact SL 0 _ rfl
              | 1, _ => exact SL 1 _ rfl
              | 2, _ => exact SL 2 _ rfl) (by omega) Dc.cur).mono ?_
            clear SL
            rintro e wd ⟨⟨d5, hm5, rfl⟩, hc5, hd5⟩
            have hdz : d5.size ≤ 41 := by
              simp only [List.mem_cons, List.not_mem_nil, or_false] at hm5
              rcases hm5 with rfl | rfl | rfl <;> decide
            replace Dc := Dc.move hk ht hne hc5 hd5
            try replace NZ := NZ.drawn hd5 (by omega)
            replace hsz : w3.heap.size ≤ wd.heap.size := Nat.le_trans hsz hd5.size
            clear hc5 hd5 hm5
            (try go_wp2_with fail)
            refine hK.out _ _ (by first | with_reducible exact Dc.cells | with_reducible exact pDd | go_keep) (fun hHeld => ?_)
            clear hK K
            try simp only [Act.put, List.setIfInBounds_toArray, List.set_cons_zero, List.set_cons_succ]
            refine wpAnyH_ready (rs := [5, 10]) (by kernel_rfl) (by simp) ?_
            refine AllReadyH.cons (o := { dst := some 26, op := Op.call { callee := Callee.value (Operand.func 75), args := #[Operand.tmp 21, Operand.tmp 22, Operand.tmp 25], argTypes := #[26, 40, 9] }, type := 125, pos := "l08_writer.go:81", after := #[{ on := 0, ground := Ground.data }, { on := 1, ground := Ground.data }, { on := 4, ground := Ground.data }, { on := 4, ground := Ground.chain }], guard := none }) rfl (fun K hK => ?_) (AllReadyH.cons (o := { dst := some 7, op := Op.alloc 40, type := 0, pos := "l08_writer.go:81", after := #[], guard := none }) rfl (fun K hK => ?_) AllReadyH.nil)
            · go_simp
              have C6 := dUnhide CP wd Dc d5 hdz
              have R6 := dUnhide HR d5 hdz
              try (have hN7 := (NZ.2 0 _ rfl).1)
              try (replace hN7 : b7 < wd.heap.size := dCell_lt hN7)
              generalize addM ds cop m d5 = AM at *
              obtain ⟨m6, o6, k6⟩ := AM
              try simp only at C6 R6
              try simp only
              obtain ⟨lo6, el6⟩ : ∃ l, wd.heap.size = l := ⟨_, rfl⟩
              refine C6.mono ?_
              clear C6
              rintro e wd' ⟨⟨u6, rfl, O6⟩, b6⟩
              obtain ⟨a6, c6, rfl⟩ := O6.slice
              replace Dc := Dc.below b6
              try replace NZ := NZ.below b6
              have I6 := O6.in_
              rw [el6] at I6
              try rw [el6] at hN7
              have hs6 := b6.size
              have hl6 : bt + 1 ≤ lo6 := by omega
              replace hsz : w3.heap.size ≤ wd'.heap.size := by omega
              obtain ⟨hi6, eh6⟩ : ∃ l, wd'.heap.size = l := ⟨_, rfl⟩
              rw [eh6] at I6
              have hh6 : hi6 ≤ wd'.heap.size := by omega
              clear b6 O6 hs6 el6 eh6
              generalize wd' = wd at *
              (try go_wp2_with fail)
              refine hK.out _ _ (by first | with_reducible exact Dc.cells | with_reducible exact pDd | go_keep) (fun hHeld => ?_)
              clear hK K
              try simp only [Act.put, List.setIfInBounds_toArray, List.set_cons_zero, List.set_cons_succ]
              refine wpAnyH_take (i := 6) (oi := { dst := some 20, op := Op.move (Operand.tmp 26), type := 125, pos := "l08_writer.go:81", after := #[{ on := 5, ground := Ground.data }], guard := none }) (v := ?_) rfl (by kernel_rfl) (by kernel_rfl) (by kernel_rfl) (fun _ _ _ h => h) (Or.inl ⟨by rfl, ?_⟩) (by assumption) ?_
              rotate_left 1
              · intro w hSw
                (try dsimp only at hSw)
                first | (go_simp; done) | (go_simp; with_reducible rfl)
              try simp only [Act.put, List.setIfInBounds_toArray, List.set_cons_zero, List.set_cons_succ]
              refine wpAnyH_take (i := 7) (oi := { dst := some 27, op := Op.extract (Operand.tmp 20) 0, type := 40, pos := "l08_writer.go:81", after := #[{ on := 6, ground := Ground.data }], guard := none }) (v := ?_) rfl (by kernel_rfl) (by kernel_rfl) (by kernel_rfl) (fun _ _ _ h => h) (Or.inl ⟨by rfl, ?_⟩) (by assumption) ?_
              rotate_left 1
              · intro w hSw
                (try dsimp only at hSw)
                first | (go_simp; done) | (go_simp; with_reducible rfl)
              try simp only [Act.put, List.setIfInBounds_toArray, List.set_cons_zero, List.set_cons_succ]
              refine wpAnyH_take (i := 8) (oi := { dst := some 28, op := Op.extract (Operand.tmp 20) 1, type := 3, pos := "l08_writer.go:81", after := #[{ on := 6, ground := Ground.data }, { on := 11, ground := Ground.gcOnly Departure.lateStores }], guard := none }) (v := ?_) rfl (by kernel_rfl) (by kernel_rfl) (by kernel_rfl) (fun _ _ _ h => h) (Or.inl ⟨by rfl, ?_⟩) (by assumption) ?_
              rotate_left 1
              · intro w hSw
                (try dsimp only at hSw)
                first | (go_simp; done) | (go_simp; with_reducible rfl)
              try simp only [Act.put, List.setIfInBounds_toArray, List.set_cons_zero, List.set_cons_succ]
              refine wpAnyH_take (i := 9) (oi := { dst := some 29, op := Op.extract (Operand.tmp 20) 2, type := 4, pos := "l08_writer.go:81", after := #[{ on := 6, ground := Ground.data }, { on := 12, ground := Ground.gcOnly Departure.lateStores }], guard := none }) (v := ?_) rfl (by kernel_rfl) (by kernel_rfl) (by kernel_rfl) (fun _ _ _ h => h) (Or.inl ⟨by rfl, ?_⟩) (by assumption) ?_
              rotate_left 1
              · intro w hSw
                (try dsimp only at hSw)
                first | (go_simp; done) | (go_simp; with_reducible rfl)
              try simp only [Act.put, List.setIfInBounds_toArray, List.set_cons_zero, List.set_cons_succ]
              refine wpAnyH_ready (rs := [10]) (by kernel_rfl) (by simp) ?_
              refine AllReadyH.cons (o := { dst := some 7, op := Op.alloc 40, type := 0, pos := "l08_writer.go:81", after := #[], guard := none }) rfl (fun K hK => ?_) AllReadyH.nil
              go_simp
              have NZ := BxZ.new (B := 0) wd [.int .i64 0, .slice none 0 0] 40 (Nat.zero_le _)
              have es7 : (wd.alloc (.cells #[.int .i64 0, .slice none 0 0] 40)).heap.size = wd.heap.size + 1 := by simp
              replace Dc := Dc.below (ba wd (.cells #[.int .i64 0, .slice none 0 0] 40))
              try replace SL := SL.below (ba wd (.cells #[.int .i64 0, .slice none 0 0] 40))
              try (replace I6 := I6.same (W' := wd.alloc (.cells #[.int .i64 0, .slice none 0 0] 40)) (fun j _ h => (ba wd (.cells #[.int .i64 0, .slice none 0 0] 40)).block j (by omega)))
              have hb7 : w3.heap.size ≤ wd.heap.size := hsz
              try (have hap : lo6 = lo6 ∧ hi6 ≤ wd.heap.size := ⟨rfl, hh6⟩)
              try (replace hh6 : hi6 ≤ (wd.alloc (.cells #[.int .i64 0, .slice none 0 0] 40)).heap.size := by omega)
              replace hsz : w3.heap.size ≤ (wd.alloc (.cells #[.int .i64 0, .slice none 0 0] 40)).heap.size := by omega
              clear es7
              generalize wd.heap.size = b7 at *
              generalize wd.alloc (.cells #[.int .i64 0, .slice none 0 0] 40) = wd at *
              refine hK.out _ _ (by first | with_reducible exact Dc.cells | with_reducible exact pDd | go_keep) (fun hHeld => ?_)
              clear hK K
              try simp only [Act.put, List.setIfInBounds_toArray, List.set_cons_zero, List.set_cons_succ]
              refine wpAnyH_ready (rs := [11]) (by kernel_rfl) (by simp) ?_
              refine AllReadyH.cons (o := { dst := none, op := Op.store 40 (Operand.tmp 7) (Operand.tmp 27), type := 0, pos := "l08_writer.go:81", after := #[{ on := 10, ground := Ground.data }, { on := 7, ground := Ground.data }, { on := 5, ground := Ground.chain }, { on := 0, ground := Ground.phase }, { on := 1, ground := Ground.phase }, { on := 2, ground := Ground.phase }, { on := 3, ground := Ground.phase }, { on := 4, ground := Ground.phase }, { on := 5, ground := Ground.phase }, { on := 6, ground := Ground.phase }, { on := 7, ground := Ground.phase }, { on := 8, ground := Ground.textOnly Departure.lateStores }, { on := 9, ground := Ground.textOnly Departure.lateStores }, { on := 10, ground := Ground.phase }], guard := none }) rfl (fun K hK => ?_) AllReadyH.nil
              obtain ⟨z0, f0⟩ := NZ.2 0 _ rfl
              obtain ⟨z1, f1⟩ := NZ.2 1 _ rfl
              go_simp
              have N8 := DV.put (m := m6) I6 hh6 NZ (by first | exact .inl hN7 | exact .inr hap.2)
              replace Dc := (Dc.set hk ht hw hb7 (by omega) 0 (.int .i64 m6.epoch)).set hk ht hw hb7 (by omega) 1 (.slice a6 m6.words.length c6)
              clear z0 f0 z1 f1 NZ I6
              refine hK.out _ _ (by first | with_reducible exact Dc.cells | with_reducible exact pDd | go_keep) (fun hHeld => ?_)
              clear hK K
              try simp only [Act.put, List.setIfInBounds_toArray, List.set_cons_zero, List.set_cons_succ]
              refine wpAnyH_take (i := 12) (oi := { dst := some 8, op := Op.assign (Operand.tmp 28), type := 3, pos := "l08_writer.go:81", after := #[{ on := 8, ground := Ground.data }, { on := 11, ground := Ground.chain }, { on := 0, ground := Ground.phase }, { on := 1, ground := Ground.phase }, { on := 2, ground := Ground.phase }, { on := 3, ground := Ground.phase }, { on := 4, ground := Ground.phase }, { on := 5, ground := Ground.phase }, { on := 6, ground := Ground.phase }, { on := 7, ground := Ground.phase }, { on := 8, ground := Ground.phase }, { on := 9, ground := Ground.textOnly Departure.lateStores }, { on := 10, ground := Ground.phase }, { on := 11, ground := Ground.phase }], guard := none }) (v := ?_) rfl (by kernel_rfl) (by kernel_rfl) (by kernel_rfl) (fun _ _ _ h => h) (Or.inl ⟨by rfl, ?_⟩) (by assumption) ?_
              rotate_left 1
              · intro w hSw
                (try dsimp only at hSw)
                first | (go_simp; done) | (go_simp; with_reducible rfl)
              try simp only [Act.put, List.setIfInBounds_toArray, List.set_cons_zero, List.set_cons_succ]
              refine wpAnyH_take (i := 13) (oi := { dst := some 9, op := Op.assign (Operand.tmp 29), type := 4, pos := "l08_writer.go:81", after := #[{ on := 9, ground := Ground.data }, { on := 12, ground := Ground.chain }, { on := 0, ground := Ground.phase }, { on := 1, ground := Ground.phase }, { on := 2, ground := Ground.phase }, { on := 3, ground := Ground.phase }, { on := 4, ground := Ground.phase }, { on := 5, ground := Ground.phase }, { on := 6, ground := Ground.phase }, { on := 7, ground := Ground.phase }, { on := 8, ground := Ground.phase }, { on := 9, ground := Ground.phase }, { on := 10, ground := Ground.phase }, { on := 11, ground := Ground.phase }, { on := 12, ground := Ground.phase }], guard := none }) (v := ?_) rfl (by kernel_rfl) (by kernel_rfl) (by kernel_rfl) (fun _ _ _ h => h) (Or.inl ⟨by rfl, ?_⟩) (by assumption) ?_
              rotate_left 1
              · intro w hSw
                (try dsimp only at hSw)
                first | (go_simp; done) | (go_simp; with_reducible rfl)
              try simp only [Act.put, List.setIfInBounds_toArray, List.set_cons_zero, List.set_cons_succ]
              refine wpAnyH_done (by kernel_rfl) ?_ _
              refine NoPanic.normal ?_
              go_wp2_with fail
              go_meet
              case rel => exact ⟨b7, lo6, hi6, m6, k6, a6, c6, rfl, rfl, hb7, hl6, R6, N8, Dc⟩
            · go_simp
              have NZ := BxZ.new (B := 0) wd [.int .i64 0, .slice none 0 0] 40 (Nat.zero_le _)
              have es7 : (wd.alloc (.cells #[.int .i64 0, .slice none 0 0] 40)).heap.size = wd.heap.size + 1 := by simp
              replace Dc := Dc.below (ba wd (.cells #[.int .i64 0, .slice none 0 0] 40))
              try replace SL := SL.below (ba wd (.cells #[.int .i64 0, .slice none 0 0] 40))
              try (replace I6 := I6.same (W' := wd.alloc (.cells #[.int .i64 0, .slice none 0 0] 40)) (fun j _ h => (ba wd (.cells #[.int .i64 0, .slice none 0 0] 40)).block j (by omega)))
              have hb7 : w3.heap.size ≤ wd.heap.size := hsz
              try (have hap : lo6 = lo6 ∧ hi6 ≤ wd.heap.size := ⟨rfl, hh6⟩)
              try (replace hh6 : hi6 ≤ (wd.alloc (.cells #[.int .i64 0, .slice none 0 0] 40)).heap.size := by omega)
              replace hsz : w3.heap.size ≤ (wd.alloc (.cells #[.int .i64 0, .slice none 0 0] 40)).heap.size := by omega
              clear es7
              generalize wd.heap.size = b7 at *
              generalize wd.alloc (.cells #[.int .i64 0, .slice none 0 0] 40) = wd at *
              refine hK.out _ _ (by first | with_reducible exact Dc.cells | with_reducible exact pDd | go_keep) (fun hHeld => ?_)
              clear hK K
              try simp only [Act.put, List.setIfInBounds_toArray, List.set_cons_zero, List.set_cons_succ]
              refine wpAnyH_ready (rs := [5]) (by kernel_rfl) (by simp) ?_
              refine AllReadyH.cons (o := { dst := some 26, op := Op.call { callee := Callee.value (Operand.func 75), args := #[Operand.tmp 21, Operand.tmp 22, Operand.tmp 25], argTypes := #[26, 40, 9] }, type := 125, pos := "l08_writer.go:81", after := #[{ on := 0, ground := Ground.data }, { on := 1, ground := Ground.data }, { on := 4, ground := Ground.data }, { on := 4, ground := Ground.chain }], guard := none }) rfl (fun K hK => ?_) AllReadyH.nil
              go_simp
              have C6 := dUnhide CP wd Dc d5 hdz
              have R6 := dUnhide HR d5 hdz
              try (have hN7 := (NZ.2 0 _ rfl).1)
              try (replace hN7 : b7 < wd.heap.size := dCell_lt hN7)
              generalize addM ds cop m d5 = AM at *
              obtain ⟨m6, o6, k6⟩ := AM
              try simp only at C6 R6
              try simp only
              obtain ⟨lo6, el6⟩ : ∃ l, wd.heap.size = l := ⟨_, rfl⟩
              refine C6.mono ?_
              clear C6
              rintro e wd' ⟨⟨u6, rfl, O6⟩, b6⟩
              obtain ⟨a6, c6, rfl⟩ := O6.slice
              replace Dc := Dc.below b6
              try replace NZ := NZ.below b6
              have I6 := O6.in_
              rw [el6] at I6
              try rw [el6] at hN7
              have hs6 := b6.size
              have hl6 : bt + 1 ≤ lo6 := by omega
              replace hsz : w3.heap.size ≤ wd'.heap.size := by omega
              obtain ⟨hi6, eh6⟩ : ∃ l, wd'.heap.size = l := ⟨_, rfl⟩
              rw [eh6] at I6
              have hh6 : hi6 ≤ wd'.heap.size := by omega
              clear b6 O6 hs6 el6 eh6
              generalize wd' = wd at *
              (try go_wp2_with fail)
              refine hK.out _ _ (by first | with_reducible exact Dc.cells | with_reducible exact pDd | go_keep) (fun hHeld => ?_)
              clear hK K
              try simp only [Act.put, List.setIfInBounds_toArray, List.set_cons_zero, List.set_cons_succ]
              refine wpAnyH_take (i := 6) (oi := { dst := some 20, op := Op.move (Operand.tmp 26), type := 125, pos := "l08_writer.go:81", after := #[{ on := 5, ground := Ground.data }], guard := none }) (v := ?_) rfl (by kernel_rfl) (by kernel_rfl) (by kernel_rfl) (fun _ _ _ h => h) (Or.inl ⟨by rfl, ?_⟩) (by assumption) ?_
              rotate_left 1
              · intro w hSw
                (try dsimp only at hSw)
                first | (go_simp; done) | (go_simp; with_reducible rfl)
              try simp only [Act.put, List.setIfInBounds_toArray, List.set_cons_zero, List.set_cons_succ]
              refine wpAnyH_take (i := 7) (oi := { dst := some 27, op := Op.extract (Operand.tmp 20) 0, type := 40, pos := "l08_writer.go:81", after := #[{ on := 6, ground := Ground.data }], guard := none }) (v := ?_) rfl (by kernel_rfl) (by kernel_rfl) (by kernel_rfl) (fun _ _ _ h => h) (Or.inl ⟨by rfl, ?_⟩) (by assumption) ?_
              rotate_left 1
              · intro w hSw
                (try dsimp only at hSw)
                first | (go_simp; done) | (go_simp; with_reducible rfl)
              try simp only [Act.put, List.setIfInBounds_toArray, List.set_cons_zero, List.set_cons_succ]
              refine wpAnyH_take (i := 8) (oi := { dst := some 28, op := Op.extract (Operand.tmp 20) 1, type := 3, pos := "l08_writer.go:81", after := #[{ on := 6, ground := Ground.data }, { on := 11, ground := Ground.gcOnly Departure.lateStores }], guard := none }) (v := ?_) rfl (by kernel_rfl) (by kernel_rfl) (by kernel_rfl) (fun _ _ _ h => h) (Or.inl ⟨by rfl, ?_⟩) (by assumption) ?_
              rotate_left 1
              · intro w hSw
                (try dsimp only at hSw)
                first | (go_simp; done) | (go_simp; with_reducible rfl)
              try simp only [Act.put, List.setIfInBounds_toArray, List.set_cons_zero, List.set_cons_succ]
              refine wpAnyH_take (i := 9) (oi := { dst := some 29, op := Op.extract (Operand.tmp 20) 2, type := 4, pos := "l08_writer.go:81", after := #[{ on := 6, ground := Ground.data }, { on := 12, ground := Ground.gcOnly Departure.lateStores }], guard := none }) (v := ?_) rfl (by kernel_rfl) (by kernel_rfl) (by kernel_rfl) (fun _ _ _ h => h) (Or.inl ⟨by rfl, ?_⟩) (by assumption) ?_
              rotate_left 1
              · intro w hSw
                (try dsimp only at hSw)
                first | (go_simp; done) | (go_simp; with_reducible rfl)
              try simp only [Act.put, List.setIfInBounds_toArray, List.set_cons_zero, List.set_cons_succ]
              refine wpAnyH_ready (rs := [11]) (by kernel_rfl) (by simp) ?_
              refine AllReadyH.cons (o := { dst := none, op := Op.store 40 (Operand.tmp 7) (Operand.tmp 27), type := 0, pos := "l08_writer.go:81", after := #[{ on := 10, ground := Ground.data }, { on := 7, ground := Ground.data }, { on := 5, ground := Ground.chain }, { on := 0, ground := Ground.phase }, { on := 1, ground := Ground.phase }, { on := 2, ground := Ground.phase }, { on := 3, ground := Ground.phase }, { on := 4, ground := Ground.phase }, { on := 5, ground := Ground.phase }, { on := 6, ground := Ground.phase }, { on := 7, ground := Ground.phase }, { on := 8, ground := Ground.textOnly Departure.lateStores }, { on := 9, ground := Ground.textOnly Departure.lateStores }, { on := 10, ground := Ground.phase }], guard := none }) rfl (fun K hK => ?_) AllReadyH.nil
              obtain ⟨z0, f0⟩ := NZ.2 0 _ rfl
              obtain ⟨z1, f1⟩ := NZ.2 1 _ rfl
              go_simp
              have N8 := DV.put (m := m6) I6 hh6 NZ (by first | exact .inl hN7 | exact .inr hap.2)
              replace Dc := (Dc.set hk ht hw hb7 (by omega) 0 (.int .i64 m6.epoch)).set hk ht hw hb7 (by omega) 1 (.slice a6 m6.words.length c6)
              clear z0 f0 z1 f1 NZ I6
              refine hK.out _ _ (by first | with_reducible exact Dc.cells | with_reducible exact pDd | go_keep) (fun hHeld => ?_)
              clear hK K
              try simp only [Act.put, List.setIfInBounds_toArray, List.set_cons_zero, List.set_cons_succ]
              refine wpAnyH_take (i := 12) (oi := { dst := some 8, op := Op.assign (Operand.tmp 28), type := 3, pos := "l08_writer.go:81", after := #[{ on := 8, ground := Ground.data }, { on := 11, ground := Ground.chain }, { on := 0, ground := Ground.phase }, { on := 1, ground := Ground.phase }, { on := 2, ground := Ground.phase }, { on := 3, ground := Ground.phase }, { on := 4, ground := Ground.phase }, { on := 5, ground := Ground.phase }, { on := 6, ground := Ground.phase }, { on := 7, ground := Ground.phase }, { on := 8, ground := Ground.phase }, { on := 9, ground := Ground.textOnly Departure.lateStores }, { on := 10, ground := Ground.phase }, { on := 11, ground := Ground.phase }], guard := none }) (v := ?_) rfl (by kernel_rfl) (by kernel_rfl) (by kernel_rfl) (fun _ _ _ h => h) (Or.inl ⟨by rfl, ?_⟩) (by assumption) ?_
              rotate_left 1
              · intro w hSw
                (try dsimp only at hSw)
                first | (go_simp; done) | (go_simp; with_reducible rfl)
              try simp only [Act.put, List.setIfInBounds_toArray, List.set_cons_zero, List.set_cons_succ]
              refine wpAnyH_take (i := 13) (oi := { dst := some 9, op := Op.assign (Operand.tmp 29), type := 4, pos := "l08_writer.go:81", after := #[{ on := 9, ground := Ground.data }, { on := 12, ground := Ground.chain }, { on := 0, ground := Ground.phase }, { on := 1, ground := Ground.phase }, { on := 2, ground := Ground.phase }, { on := 3, ground := Ground.phase }, { on := 4, ground := Ground.phase }, { on := 5, ground := Ground.phase }, { on := 6, ground := Ground.phase }, { on := 7, ground := Ground.phase }, { on := 8, ground := Ground.phase }, { on := 9, ground := Ground.phase }, { on := 10, ground := Ground.phase }, { on := 11, ground := Ground.phase }, { on := 12, ground := Ground.phase }], guard := none }) (v := ?_) rfl (by kernel_rfl) (by kernel_rfl) (by kernel_rfl) (fun _ _ _ h => h) (Or.inl ⟨by rfl, ?_⟩) (by assumption) ?_
              rotate_left 1
              · intro w hSw
                (try dsimp only at hSw)
                first | (go_simp; done) | (go_simp; with_reducible rfl)
              try simp only [Act.put, List.setIfInBounds_toArray, List.set_cons_zero, List.set_cons_succ]
              refine wpAnyH_done (by kernel_rfl) ?_ _
              refine NoPanic.normal ?_
              go_wp2_with fail
              go_meet
              case rel => exact ⟨b7, lo6, hi6, m6, k6, a6, c6, rfl, rfl, hb7, hl6, R6, N8, Dc⟩
          · go_simp
            have NZ := BxZ.new (B := 0) wd [.int .i64 0, .slice none 0 0] 40 (Nat.zero_le _)
            have es7 : (wd.alloc (.cells #[.int .i64 0, .slice none 0 0] 40)).heap.size = wd.heap.size + 1 := by simp
            replace Dc := Dc.below (ba wd (.cells #[.int .i64 0, .slice none 0 0] 40))
            try replace SL := SL.below (ba wd (.cells #[.int .i64 0, .slice none 0 0] 40))
            try (replace I6 := I6.same (W' := wd.alloc (.cells #[.int .i64 0, .slice none 0 0] 40)) (fun j _ h => (ba wd (.cells #[.int .i64 0, .slice none 0 0] 40)).block j (by omega)))
            have hb7 : w3.heap.size ≤ wd.heap.size := hsz
            try (have hap : lo6 = lo6 ∧ hi6 ≤ wd.heap.size := ⟨rfl, hh6⟩)
            try (replace hh6 : hi6 ≤ (wd.alloc (.cells #[.int .i64 0, .slice none 0 0] 40)).heap.size := by omega)
            replace hsz : w3.heap.size ≤ (wd.alloc (.cells #[.int .i64 0, .slice none 0 0] 40)).heap.size := by omega
            clear es7
            generalize wd.heap.size = b7 at *
            generalize wd.alloc (.cells #[.int .i64 0, .slice none 0 0] 40) = wd at *
            refine hK.out _ _ (by first | with_reducible exact Dc.cells | with_reducible exact pDd | go_keep) (fun hHeld => ?_)
            clear hK K
            try simp only [Act.put, List.setIfInBounds_toArray, List.set_cons_zero, List.set_cons_succ]
            refine wpAnyH_ready (rs := [4]) (by kernel_rfl) (by simp) ?_
            refine AllReadyH.cons (o := { dst := some 25, op := Op.call { callee := Callee.value (Operand.func 76), args := #[Operand.tmp 23, Operand.tmp 24], argTypes := #[61, 128] }, type := 9, pos := "l08_writer.go:81", after := #[{ on := 2, ground := Ground.data }, { on := 3, ground := Ground.data }], guard := none }) rfl (fun K hK => ?_) AllReadyH.nil
            go_simp
            refine (l1Pick_any bk b3 0 3 [⟨#[]⟩, ⟨#[97]⟩, ⟨#[98, 99]⟩] wd (by decide) (by decide) (fun i hi => by
              match i, hi with
              | 0, _ => exact SL 0 _ rfl
              | 1, _ => exact SL 1 _ rfl
              | 2, _ => exact SL 2 _ rfl) (by omega) Dc.cur).mono ?_
            clear SL
            rintro e wd ⟨⟨d5, hm5, rfl⟩, hc5, hd5⟩
            have hdz : d5.size ≤ 41 := by
              simp only [List.mem_cons, List.not_mem_nil, or_false] at hm5
              rcases hm5 with rfl | rfl | rfl <;> decide
            replace Dc := Dc.move hk ht hne hc5 hd5
            try replace NZ := NZ.drawn hd5 (by omega)
            replace hsz : w3.heap.size ≤ wd.heap.size := Nat.le_trans hsz hd5.size
            clear hc5 hd5 hm5
            (try go_wp2_with fail)
            refine hK.out _ _ (by first | with_reducible exact Dc.cells | with_reducible exact pDd | go_keep) (fun hHeld => ?_)
            clear hK K
            try simp only [Act.put, List.setIfInBounds_toArray, List.set_cons_zero, List.set_cons_succ]
            refine wpAnyH_ready (rs := [5]) (by kernel_rfl) (by simp) ?_
            refine AllReadyH.cons (o := { dst := some 26, op := Op.call { callee := Callee.value (Operand.func 75), args := #[Operand.tmp 21, Operand.tmp 22, Operand.tmp 25], argTypes := #[26, 40, 9] }, type := 125, pos := "l08_writer.go:81", after := #[{ on := 0, ground := Ground.data }, { on := 1, ground := Ground.data }, { on := 4, ground := Ground.data }, { on := 4, ground := Ground.chain }], guard := none }) rfl (fun K hK => ?_) AllReadyH.nil
            go_simp
            have C6 := dUnhide CP wd Dc d5 hdz
            have R6 := dUnhide HR d5 hdz
            try (have hN7 := (NZ.2 0 _ rfl).1)
            try (replace hN7 : b7 < wd.heap.size := dCell_lt hN7)
            generalize addM ds cop m d5 = AM at *
            obtain ⟨m6, o6, k6⟩ := AM
            try simp only at C6 R6
            try simp only
            obtain ⟨lo6, el6⟩ : ∃ l, wd.heap.size = l := ⟨_, rfl⟩
            refine C6.mono ?_
            clear C6
            rintro e wd' ⟨⟨u6, rfl, O6⟩, b6⟩
            obtain ⟨a6, c6, rfl⟩ := O6.slice
            replace Dc := Dc.below b6
            try replace NZ := NZ.below b6
            have I6 := O6.in_
            rw [el6] at I6
            try rw [el6] at hN7
            have hs6 := b6.size
            have hl6 : bt + 1 ≤ lo6 := by omega
            replace hsz : w3.heap.size ≤ wd'.heap.size := by omega
            obtain ⟨hi6, eh6⟩ : ∃ l, wd'.heap.size = l := ⟨_, rfl⟩
            rw [eh6] at I6
            have hh6 : hi6 ≤ wd'.heap.size := by omega
            clear b6 O6 hs6 el6 eh6
            generalize wd' = wd at *
            (try go_wp2_with fail)
            refine hK.out _ _ (by first | with_reducible exact Dc.cells | with_reducible exact pDd | go_keep) (fun hHeld => ?_)
            clear hK K
            try simp only [Act.put, List.setIfInBounds_toArray, List.set_cons_zero, List.set_cons_succ]
            refine wpAnyH_take (i := 6) (oi := { dst := some 20, op := Op.move (Operand.tmp 26), type := 125, pos := "l08_writer.go:81", after := #[{ on := 5, ground := Ground.data }], guard := none }) (v := ?_) rfl (by kernel_rfl) (by kernel_rfl) (by kernel_rfl) (fun _ _ _ h => h) (Or.inl ⟨by rfl, ?_⟩) (by assumption) ?_
            rotate_left 1
            · intro w hSw
              (try dsimp only at hSw)
              first | (go_simp; done) | (go_simp; with_reducible rfl)
            try simp only [Act.put, List.setIfInBounds_toArray, List.set_cons_zero, List.set_cons_succ]
            refine wpAnyH_take (i := 7) (oi := { dst := some 27, op := Op.extract (Operand.tmp 20) 0, type := 40, pos := "l08_writer.go:81", after := #[{ on := 6, ground := Ground.data }], guard := none }) (v := ?_) rfl (by kernel_rfl) (by kernel_rfl) (by kernel_rfl) (fun _ _ _ h => h) (Or.inl ⟨by rfl, ?_⟩) (by assumption) ?_
            rotate_left 1
            · intro w hSw
              (try dsimp only at hSw)
              first | (go_simp; done) | (go_simp; with_reducible rfl)
            try simp only [Act.put, List.setIfInBounds_toArray, List.set_cons_zero, List.set_cons_succ]
            refine wpAnyH_take (i := 8) (oi := { dst := some 28, op := Op.extract (Operand.tmp 20) 1, type := 3, pos := "l08_writer.go:81", after := #[{ on := 6, ground := Ground.data }, { on := 11, ground := Ground.gcOnly Departure.lateStores }], guard := none }) (v := ?_) rfl (by kernel_rfl) (by kernel_rfl) (by kernel_rfl) (fun _ _ _ h => h) (Or.inl ⟨by rfl, ?_⟩) (by assumption) ?_
            rotate_left 1
            · intro w hSw
              (try dsimp only at hSw)
              first | (go_simp; done) | (go_simp; with_reducible rfl)
            try simp only [Act.put, List.setIfInBounds_toArray, List.set_cons_zero, List.set_cons_succ]
            refine wpAnyH_take (i := 9) (oi := { dst := some 29, op := Op.extract (Operand.tmp 20) 2, type := 4, pos := "l08_writer.go:81", after := #[{ on := 6, ground := Ground.data }, { on := 12, ground := Ground.gcOnly Departure.lateStores }], guard := none }) (v := ?_) rfl (by kernel_rfl) (by kernel_rfl) (by kernel_rfl) (fun _ _ _ h => h) (Or.inl ⟨by rfl, ?_⟩) (by assumption) ?_
            rotate_left 1
            · intro w hSw
              (try dsimp only at hSw)
              first | (go_simp; done) | (go_simp; with_reducible rfl)
            try simp only [Act.put, List.setIfInBounds_toArray, List.set_cons_zero, List.set_cons_succ]
            refine wpAnyH_ready (rs := [11]) (by kernel_rfl) (by simp) ?_
            refine AllReadyH.cons (o := { dst := none, op := Op.store 40 (Operand.tmp 7) (Operand.tmp 27), type := 0, pos := "l08_writer.go:81", after := #[{ on := 10, ground := Ground.data }, { on := 7, ground := Ground.data }, { on := 5, ground := Ground.chain }, { on := 0, ground := Ground.phase }, { on := 1, ground := Ground.phase }, { on := 2, ground := Ground.phase }, { on := 3, ground := Ground.phase }, { on := 4, ground := Ground.phase }, { on := 5, ground := Ground.phase }, { on := 6, ground := Ground.phase }, { on := 7, ground := Ground.phase }, { on := 8, ground := Ground.textOnly Departure.lateStores }, { on := 9, ground := Ground.textOnly Departure.lateStores }, { on := 10, ground := Ground.phase }], guard := none }) rfl (fun K hK => ?_) AllReadyH.nil
            obtain ⟨z0, f0⟩ := NZ.2 0 _ rfl
            obtain ⟨z1, f1⟩ := NZ.2 1 _ rfl
            go_simp
            have N8 := DV.put (m := m6) I6 hh6 NZ (by first | exact .inl hN7 | exact .inr hap.2)
            replace Dc := (Dc.set hk ht hw hb7 (by omega) 0 (.int .i64 m6.epoch)).set hk ht hw hb7 (by omega) 1 (.slice a6 m6.words.length c6)
            clear z0 f0 z1 f1 NZ I6
            refine hK.out _ _ (by first | with_reducible exact Dc.cells | with_reducible exact pDd | go_keep) (fun hHeld => ?_)
            clear hK K
            try simp only [Act.put, List.setIfInBounds_toArray, List.set_cons_zero, List.set_cons_succ]
            refine wpAnyH_take (i := 12) (oi := { dst := some 8, op := Op.assign (Operand.tmp 28), type := 3, pos := "l08_writer.go:81", after := #[{ on := 8, ground := Ground.data }, { on := 11, ground := Ground.chain }, { on := 0, ground := Ground.phase }, { on := 1, ground := Ground.phase }, { on := 2, ground := Ground.phase }, { on := 3, ground := Ground.phase }, { on := 4, ground := Ground.phase }, { on := 5, ground := Ground.phase }, { on := 6, ground := Ground.phase }, { on := 7, ground := Ground.phase }, { on := 8, ground := Ground.phase }, { on := 9, ground := Ground.textOnly Departure.lateStores }, { on := 10, ground := Ground.phase }, { on := 11, ground := Ground.phase }], guard := none }) (v := ?_) rfl (by kernel_rfl) (by kernel_rfl) (by kernel_rfl) (fun _ _ _ h => h) (Or.inl ⟨by rfl, ?_⟩) (by assumption) ?_
            rotate_left 1
            · intro w hSw
              (try dsimp only at hSw)
              first | (go_simp; done) | (go_simp; with_reducible rfl)
            try simp only [Act.put, List.setIfInBounds_toArray, List.set_cons_zero, List.set_cons_succ]
            refine wpAnyH_take (i := 13) (oi := { dst := some 9, op := Op.assign (Operand.tmp 29), type := 4, pos := "l08_writer.go:81", after := #[{ on := 9, ground := Ground.data }, { on := 12, ground := Ground.chain }, { on := 0, ground := Ground.phase }, { on := 1, ground := Ground.phase }, { on := 2, ground := Ground.phase }, { on := 3, ground := Ground.phase }, { on := 4, ground := Ground.phase }, { on := 5, ground := Ground.phase }, { on := 6, ground := Ground.phase }, { on := 7, ground := Ground.phase }, { on := 8, ground := Ground.phase }, { on := 9, ground := Ground.phase }, { on := 10, ground := Ground.phase }, { on := 11, ground := Ground.phase }, { on := 12, ground := Ground.phase }], guard := none }) (v := ?_) rfl (by kernel_rfl) (by kernel_rfl) (by kernel_rfl) (fun _ _ _ h => h) (Or.inl ⟨by rfl, ?_⟩) (by assumption) ?_
            rotate_left 1
            · intro w hSw
              (try dsimp only at hSw)
              first | (go_simp; done) | (go_simp; with_reducible rfl)
            try simp only [Act.put, List.setIfInBounds_toArray, List.set_cons_zero, List.set_cons_succ]
            refine wpAnyH_done (by kernel_rfl) ?_ _
            refine NoPanic.normal ?_
            go_wp2_with fail
            go_meet
            case rel => exact ⟨b7, lo6, hi6, m6, k6, a6, c6, rfl, rfl, hb7, hl6, R6, N8, Dc⟩
        · go_simp
          have NZ := BxZ.new (B := 0) wd [.int .i64 0, .slice none 0 0] 40 (Nat.zero_le _)
          have es7 : (wd.alloc (.cells #[.int .i64 0, .slice none 0 0] 40)).heap.size = wd.heap.size + 1 := by simp
          replace Dc := Dc.below (ba wd (.cells #[.int .i64 0, .slice none 0 0] 40))
          try replace SL := SL.below (ba wd (.cells #[.int .i64 0, .slice none 0 0] 40))
          try (replace I6 := I6.same (W' := wd.alloc (.cells #[.int .i64 0, .slice none 0 0] 40)) (fun j _ h => (ba wd (.cells #[.int .i64 0, .slice none 0 0] 40)).block j (by omega)))
          have hb7 : w3.heap.size ≤ wd.heap.size := hsz
          try (have hap : lo6 = lo6 ∧ hi6 ≤ wd.heap.size := ⟨rfl, hh6⟩)
          try (replace hh6 : hi6 ≤ (wd.alloc (.cells #[.int .i64 0, .slice none 0 0] 40)).heap.size := by omega)
          replace hsz : w3.heap.size ≤ (wd.alloc (.cells #[.int .i64 0, .slice none 0 0] 40)).heap.size := by omega
          clear es7
          generalize wd.heap.size = b7 at *
          generalize wd.alloc (.cells #[.int .i64 0, .slice none 0 0] 40) = wd at *
          refine hK.out _ _ (by first | with_reducible exact Dc.cells | with_reducible exact pDd | go_keep) (fun hHeld => ?_)
          clear hK K
          try simp only [Act.put, List.setIfInBounds_toArray, List.set_cons_zero, List.set_cons_succ]
          refine wpAnyH_ready (rs := [3]) (by kernel_rfl) (by simp) ?_
          refine AllReadyH.cons (o := { dst := some 24, op := Op.buildSlice 128 3 #[(0, Operand.const (Value.string { data := #[] })), (1, Operand.const (Value.string { data := #[97] })), (2, Operand.const (Value.string { data := #[98, 99] }))], type := 128, pos := "l08_writer.go:81", after := #[], guard := none }) rfl (fun K hK => ?_) AllReadyH.nil
          go_simp
          have SL : Bx (wd.alloc (.cells #[.string ⟨#[]⟩, .string ⟨#[97]⟩, .string ⟨#[98, 99]⟩] 9)) wd.heap.size [.string ⟨#[]⟩, .string ⟨#[97]⟩, .string ⟨#[98, 99]⟩] := Bx.new wd [.string ⟨#[]⟩, .string ⟨#[97]⟩, .string ⟨#[98, 99]⟩] 9
          have es3 : (wd.alloc (.cells #[.string ⟨#[]⟩, .string ⟨#[97]⟩, .string ⟨#[98, 99]⟩] 9)).heap.size = wd.heap.size + 1 := by simp
          replace Dc := Dc.below (ba wd (.cells #[.string ⟨#[]⟩, .string ⟨#[97]⟩, .string ⟨#[98, 99]⟩] 9))
          try replace NZ := NZ.below (ba wd (.cells #[.string ⟨#[]⟩, .string ⟨#[97]⟩, .string ⟨#[98, 99]⟩] 9))
          have hb3 : w3.heap.size ≤ wd.heap.size := hsz
          replace hsz : w3.heap.size ≤ (wd.alloc (.cells #[.string ⟨#[]⟩, .string ⟨#[97]⟩, .string ⟨#[98, 99]⟩] 9)).heap.size := by omega
          clear es3
          generalize wd.heap.size = b3 at *
          generalize wd.alloc (.cells #[.string ⟨#[]⟩, .string ⟨#[97]⟩, .string ⟨#[98, 99]⟩] 9) = wd at *
          refine hK.out _ _ (by first | with_reducible exact Dc.cells | with_reducible exact pDd | go_keep) (fun hHeld => ?_)
          clear hK K
          try simp only [Act.put, List.setIfInBounds_toArray, List.set_cons_zero, List.set_cons_succ]
          refine wpAnyH_ready (rs := [4]) (by kernel_rfl) (by simp) ?_
          refine AllReadyH.cons (o := { dst := some 25, op := Op.call { callee := Callee.value (Operand.func 76), args := #[Operand.tmp 23, Operand.tmp 24], argTypes := #[61, 128] }, type := 9, pos := "l08_writer.go:81", after := #[{ on := 2, ground := Ground.data }, { on := 3, ground := Ground.data }], guard := none }) rfl (fun K hK => ?_) AllReadyH.nil
          go_simp
          refine (l1Pick_any bk b3 0 3 [⟨#[]⟩, ⟨#[97]⟩, ⟨#[98, 99]⟩] wd (by decide) (by decide) (fun i hi => by
            match i, hi with
            | 0, _ => exact SL 0 _ rfl
            | 1, _ => exact SL 1 _ rfl
            | 2, _ => exact SL 2 _ rfl) (by omega) Dc.cur).mono ?_
          clear SL
          rintro e wd ⟨⟨d5, hm5, rfl⟩, hc5, hd5⟩
          have hdz : d5.size ≤ 41 := by
            simp only [List.mem_cons, List.not_mem_nil, or_false] at hm5
            rcases hm5 with rfl | rfl | rfl <;> decide
          replace Dc := Dc.move hk ht hne hc5 hd5
          try replace NZ := NZ.drawn hd5 (by omega)
          replace hsz : w3.heap.size ≤ wd.heap.size := Nat.le_trans hsz hd5.size
          clear hc5 hd5 hm5
          (try go_wp2_with fail)
          refine hK.out _ _ (by first | with_reducible exact Dc.cells | with_reducible exact pDd | go_keep) (fun hHeld => ?_)
          clear hK K
          try simp only [Act.put, List.setIfInBounds_toArray, List.set_cons_zero, List.set_cons_succ]
          refine wpAnyH_ready (rs := [5]) (by kernel_rfl) (by simp) ?_
          refine AllReadyH.cons (o := { dst := some 26, op := Op.call { callee := Callee.value (Operand.func 75), args := #[Operand.tmp 21, Operand.tmp 22, Operand.tmp 25], argTypes := #[26, 40, 9] }, type := 125, pos := "l08_writer.go:81", after := #[{ on := 0, ground := Ground.data }, { on := 1, ground := Ground.data }, { on := 4, ground := Ground.data }, { on := 4, ground := Ground.chain }], guard := none }) rfl (fun K hK => ?_) AllReadyH.nil
          go_simp
          have C6 := dUnhide CP wd Dc d5 hdz
          have R6 := dUnhide HR d5 hdz
          try (have hN7 := (NZ.2 0 _ rfl).1)
          try (replace hN7 : b7 < wd.heap.size := dCell_lt hN7)
          generalize addM ds cop m d5 = AM at *
          obtain ⟨m6, o6, k6⟩ := AM
          try simp only at C6 R6
          try simp only
          obtain ⟨lo6, el6⟩ : ∃ l, wd.heap.size = l := ⟨_, rfl⟩
          refine C6.mono ?_
          clear C6
          rintro e wd' ⟨⟨u6, rfl, O6⟩, b6⟩
          obtain ⟨a6, c6, rfl⟩ := O6.slice
          replace Dc := Dc.below b6
          try replace NZ := NZ.below b6
          have I6 := O6.in_
          rw [el6] at I6
          try rw [el6] at hN7
          have hs6 := b6.size
          have hl6 : bt + 1 ≤ lo6 := by omega
          replace hsz : w3.heap.size ≤ wd'.heap.size := by omega
          obtain ⟨hi6, eh6⟩ : ∃ l, wd'.heap.size = l := ⟨_, rfl⟩
          rw [eh6] at I6
          have hh6 : hi6 ≤ wd'.heap.size := by omega
          clear b6 O6 hs6 el6 eh6
          generalize wd' = wd at *
          (try go_wp2_with fail)
          refine hK.out _ _ (by first | with_reducible exact Dc.cells | with_reducible exact pDd | go_keep) (fun hHeld => ?_)
          clear hK K
          try simp only [Act.put, List.setIfInBounds_toArray, List.set_cons_zero, List.set_cons_succ]
          refine wpAnyH_take (i := 6) (oi := { dst := some 20, op := Op.move (Operand.tmp 26), type := 125, pos := "l08_writer.go:81", after := #[{ on := 5, ground := Ground.data }], guard := none }) (v := ?_) rfl (by kernel_rfl) (by kernel_rfl) (by kernel_rfl) (fun _ _ _ h => h) (Or.inl ⟨by rfl, ?_⟩) (by assumption) ?_
          rotate_left 1
          · intro w hSw
            (try dsimp only at hSw)
            first | (go_simp; done) | (go_simp; with_reducible rfl)
          try simp only [Act.put, List.setIfInBounds_toArray, List.set_cons_zero, List.set_cons_succ]
          refine wpAnyH_take (i := 7) (oi := { dst := some 27, op := Op.extract (Operand.tmp 20) 0, type := 40, pos := "l08_writer.go:81", after := #[{ on := 6, ground := Ground.data }], guard := none }) (v := ?_) rfl (by kernel_rfl) (by kernel_rfl) (by kernel_rfl) (fun _ _ _ h => h) (Or.inl ⟨by rfl, ?_⟩) (by assumption) ?_
          rotate_left 1
          · intro w hSw
            (try dsimp only at hSw)
            first | (go_simp; done) | (go_simp; with_reducible rfl)
          try simp only [Act.put, List.setIfInBounds_toArray, List.set_cons_zero, List.set_cons_succ]
          refine wpAnyH_take (i := 8) (oi := { dst := some 28, op := Op.extract (Operand.tmp 20) 1, type := 3, pos := "l08_writer.go:81", after := #[{ on := 6, ground := Ground.data }, { on := 11, ground := Ground.gcOnly Departure.lateStores }], guard := none }) (v := ?_) rfl (by kernel_rfl) (by kernel_rfl) (by kernel_rfl) (fun _ _ _ h => h) (Or.inl ⟨by rfl, ?_⟩) (by assumption) ?_
          rotate_left 1
          · intro w hSw
            (try dsimp only at hSw)
            first | (go_simp; done) | (go_simp; with_reducible rfl)
          try simp only [Act.put, List.setIfInBounds_toArray, List.set_cons_zero, List.set_cons_succ]
          refine wpAnyH_take (i := 9) (oi := { dst := some 29, op := Op.extract (Operand.tmp 20) 2, type := 4, pos := "l08_writer.go:81", after := #[{ on := 6, ground := Ground.data }, { on := 12, ground := Ground.gcOnly Departure.lateStores }], guard := none }) (v := ?_) rfl (by kernel_rfl) (by kernel_rfl) (by kernel_rfl) (fun _ _ _ h => h) (Or.inl ⟨by rfl, ?_⟩) (by assumption) ?_
          rotate_left 1
          · intro w hSw
            (try dsimp only at hSw)
            first | (go_simp; done) | (go_simp; with_reducible rfl)
          try simp only [Act.put, List.setIfInBounds_toArray, List.set_cons_zero, List.set_cons_succ]
          refine wpAnyH_ready (rs := [11]) (by kernel_rfl) (by simp) ?_
          refine AllReadyH.cons (o := { dst := none, op := Op.store 40 (Operand.tmp 7) (Operand.tmp 27), type := 0, pos := "l08_writer.go:81", after := #[{ on := 10, ground := Ground.data }, { on := 7, ground := Ground.data }, { on := 5, ground := Ground.chain }, { on := 0, ground := Ground.phase }, { on := 1, ground := Ground.phase }, { on := 2, ground := Ground.phase }, { on := 3, ground := Ground.phase }, { on := 4, ground := Ground.phase }, { on := 5, ground := Ground.phase }, { on := 6, ground := Ground.phase }, { on := 7, ground := Ground.phase }, { on := 8, ground := Ground.textOnly Departure.lateStores }, { on := 9, ground := Ground.textOnly Departure.lateStores }, { on := 10, ground := Ground.phase }], guard := none }) rfl (fun K hK => ?_) AllReadyH.nil
          obtain ⟨z0, f0⟩ := NZ.2 0 _ rfl
          obtain ⟨z1, f1⟩ := NZ.2 1 _ rfl
          go_simp
          have N8 := DV.put (m := m6) I6 hh6 NZ (by first | exact .inl hN7 | exact .inr hap.2)
          replace Dc := (Dc.set hk ht hw hb7 (by omega) 0 (.int .i64 m6.epoch)).set hk ht hw hb7 (by omega) 1 (.slice a6 m6.words.length c6)
          clear z0 f0 z1 f1 NZ I6
          refine hK.out _ _ (by first | with_reducible exact Dc.cells | with_reducible exact pDd | go_keep) (fun hHeld => ?_)
          clear hK K
          try simp only [Act.put, List.setIfInBounds_toArray, List.set_cons_zero, List.set_cons_succ]
          refine wpAnyH_take (i := 12) (oi := { dst := some 8, op := Op.assign (Operand.tmp 28), type := 3, pos := "l08_writer.go:81", after := #[{ on := 8, ground := Ground.data }, { on := 11, ground := Ground.chain }, { on := 0, ground := Ground.phase }, { on := 1, ground := Ground.phase }, { on := 2, ground := Ground.phase }, { on := 3, ground := Ground.phase }, { on := 4, ground := Ground.phase }, { on := 5, ground := Ground.phase }, { on := 6, ground := Ground.phase }, { on := 7, ground := Ground.phase }, { on := 8, ground := Ground.phase }, { on := 9, ground := Ground.textOnly Departure.lateStores }, { on := 10, ground := Ground.phase }, { on := 11, ground := Ground.phase }], guard := none }) (v := ?_) rfl (by kernel_rfl) (by kernel_rfl) (by kernel_rfl) (fun _ _ _ h => h) (Or.inl ⟨by rfl, ?_⟩) (by assumption) ?_
          rotate_left 1
          · intro w hSw
            (try dsimp only at hSw)
            first | (go_simp; done) | (go_simp; with_reducible rfl)
          try simp only [Act.put, List.setIfInBounds_toArray, List.set_cons_zero, List.set_cons_succ]
          refine wpAnyH_take (i := 13) (oi := { dst := some 9, op := Op.assign (Operand.tmp 29), type := 4, pos := "l08_writer.go:81", after := #[{ on := 9, ground := Ground.data }, { on := 12, ground := Ground.chain }, { on := 0, ground := Ground.phase }, { on := 1, ground := Ground.phase }, { on := 2, ground := Ground.phase }, { on := 3, ground := Ground.phase }, { on := 4, ground := Ground.phase }, { on := 5, ground := Ground.phase }, { on := 6, ground := Ground.phase }, { on := 7, ground := Ground.phase }, { on := 8, ground := Ground.phase }, { on := 9, ground := Ground.phase }, { on := 10, ground := Ground.phase }, { on := 11, ground := Ground.phase }, { on := 12, ground := Ground.phase }], guard := none }) (v := ?_) rfl (by kernel_rfl) (by kernel_rfl) (by kernel_rfl) (fun _ _ _ h => h) (Or.inl ⟨by rfl, ?_⟩) (by assumption) ?_
          rotate_left 1
          · intro w hSw
            (try dsimp only at hSw)
            first | (go_simp; done) | (go_simp; with_reducible rfl)
          try simp only [Act.put, List.setIfInBounds_toArray, List.set_cons_zero, List.set_cons_succ]
          refine wpAnyH_done (by kernel_rfl) ?_ _
          refine NoPanic.normal ?_
          go_wp2_with fail
          go_meet
          case rel => exact ⟨b7, lo6, hi6, m6, k6, a6, c6, rfl, rfl, hb7, hl6, R6, N8, Dc⟩
      case rest =>
        obtain ⟨bo, lo', hi', m', mb, a', c', rfl, rfl, hbo, hlo', hR', N2, D2⟩ := hcut
        clear CP HR Dc pDd D pD
        go_wp2_with fail
        refine (l1Once_any bk 2 (by omega) (by omega) _ D2.cur).mono ?_
        rintro r w4 ⟨⟨y4, rfl⟩, hc4, hd4⟩
        have D4 := D2.move hk ht hne hc4 hd4
        have N4 := N2.drawn hd4 (by omega) (by omega)
        have hs4 : w3.heap.size ≤ w4.heap.size := Nat.le_of_lt (Nat.lt_of_le_of_lt hbo N4.lt)
        clear D2 N2 hc4 hd4
        have CQ := fun W (h : D8 w bk bt ca cc ds cop W w3.heap.size k m a c) (y z : Nat) (hy : y ≤ 15) (hz : z ≤ 9) => specAck_any _ _ (ds, cop) m (1 + (y : Int)) (z : Int) W ⟨_, rfl, h.ns⟩ h.wri.rd (h.fit.siz (by omega)) ⟨by omega, by omega⟩ (by simp only; omega)
        simp only at CQ
        replace CQ := dHide CQ
        have HC : Hid (∀ y z : Nat, z ≤ 9 → fitW (k + 1) (ackM ds cop m (1 + (y : Int)) (z : Int)).1) := fun y z h2 => D4.fit.acked ⟨by omega, by omega⟩
        have pD4 := D4.cells
        go_upto_if 31 with fail
        go_cut [9] (fun ov wx => ∃ lo' hi' m' mb a' c', ov = .bool mb ∧ bt + 1 ≤ lo' ∧ fitW (k + 1) m' ∧ DV wx bo lo' hi' m' a' c' ∧ D8 w bk bt ca cc ds cop wx w3.heap.size k m a c)
        case first =>
          cases y4 with
          | false =>
            clear CQ HC
            go_wp2_with fail
            go_meet
            case rel => exact ⟨lo', hi', m', mb, a', c', rfl, hlo', hR', N4, D4⟩
          | true =>
            have Dc := D4.below (Below.refl _ _).drew
            have Nc := N4.below (Below.refl _ _).drew
            have pDd := Dc.cells
            go_wp2_with fail
            refine wp_region_noPanic ?_
            refine wp_region_held_drew (S := fun W => W.cell? ⟨w.heap.size, 0, none⟩ = some (.slice ca ds.length cc) ∧ W.cell? ⟨w.heap.size, 1, none⟩ = some (.int .i64 cop) ∧ W.cell? ⟨bt, 0, none⟩ = some (.int .i64 m.epoch) ∧ W.cell? ⟨bt, 1, none⟩ = some (.slice a m.words.length c)) (by kernel_rfl) (by first | with_reducible exact Dc.cells | with_reducible exact pDd | go_keep) (fun hHeld => ?_)
            have hsz : w3.heap.size ≤ w4.drew.heap.size := hs4
            generalize w4.drew = wd at *
            refine wpAnyH_take (i := 0) (oi := { dst := some 33, op := Op.load 26 (Operand.tmp 3), type := 26, pos := "l08_writer.go:83", after := #[], guard := none }) (v := ?_) rfl (by kernel_rfl) (by kernel_rfl) (by kernel_rfl) (fun _ _ _ h => h) (Or.inl ⟨by rfl, ?_⟩) (by assumption) ?_
            rotate_left 1
            · intro w hSw
              (try dsimp only at hSw)
              first | (go_simp; done) | (go_simp; with_reducible rfl)
            try simp only [Act.put, List.setIfInBounds_toArray, List.set_cons_zero, List.set_cons_succ]
            refine wpAnyH_take (i := 1) (oi := { dst := some 34, op := Op.load 40 (Operand.tmp 5), type := 40, pos := "l08_writer.go:83", after := #[], guard := none }) (v := ?_) rfl (by kernel_rfl) (by kernel_rfl) (by kernel_rfl) (fun _ _ _ h => h) (Or.inl ⟨by rfl, ?_⟩) (by assumption) ?_
            rotate_left 1
            · intro w hSw
              (try dsimp only at hSw)
              first | (go_simp; done) | (go_simp; with_reducible rfl)
            try simp only [Act.put, List.setIfInBounds_toArray, List.set_cons_zero, List.set_cons_succ]
            refine wpAnyH_take (i := 2) (oi := { dst := some 35, op := Op.move (Operand.tmp 0), type := 61, pos := "l08_writer.go:83", after := #[], guard := none }) (v := ?_) rfl (by kernel_rfl) (by kernel_rfl) (by kernel_rfl) (fun _ _ _ h => h) (Or.inl ⟨by rfl, ?_⟩) (by assumption) ?_
            rotate_left 1
            · intro w hSw
              (try dsimp only at hSw)
              first | (go_simp; done) | (go_simp; with_reducible rfl)
            try simp only [Act.put, List.setIfInBounds_toArray, List.set_cons_zero, List.set_cons_succ]
            refine wpAnyH_take (i := 3) (oi := { dst := some 36, op := Op.fieldAddr 40 (Operand.tmp 5) 1, type := 0, pos := "l08_writer.go:83", after := #[], guard := none }) (v := ?_) rfl (by kernel_rfl) (by kernel_rfl) (by kernel_rfl) (fun _ _ _ h => h) (Or.inl ⟨by rfl, ?_⟩) (by assumption) ?_
            rotate_left 1
            · intro w hSw
              (try dsimp only at hSw)
              first | (go_simp; done) | (go_simp; with_reducible rfl)
            try simp only [Act.put, List.setIfInBounds_toArray, List.set_cons_zero, List.set_cons_succ]
            refine wpAnyH_take (i := 4) (oi := { dst := some 37, op := Op.load 38 (Operand.tmp 36), type := 38, pos := "l08_writer.go:83", after := #[{ on := 3, ground := Ground.data }], guard := none }) (v := ?_) rfl (by kernel_rfl) (by kernel_rfl) (by kernel_rfl) (fun _ _ _ h => h) (Or.inl ⟨by rfl, ?_⟩) (by assumption) ?_
            rotate_left 1
            · intro w hSw
              (try dsimp only at hSw)
              first | (go_simp; done) | (go_simp; with_reducible rfl)
            try simp only [Act.put, List.setIfInBounds_toArray, List.set_cons_zero, List.set_cons_succ]
            refine wpAnyH_take (i := 5) (oi := { dst := some 38, op := Op.call { callee := Callee.builtin Builtin.len, args := #[Operand.tmp 37], argTypes := #[38] }, type := 3, pos := "l08_writer.go:83", after := #[{ on := 4, ground := Ground.data }], guard := none }) (v := ?_) rfl (by kernel_rfl) (by kernel_rfl) (by kernel_rfl) (fun _ _ _ h => h) (Or.inl ⟨by rfl, ?_⟩) (by assumption) ?_
            rotate_left 1
            · intro w hSw
              (try dsimp only at hSw)
              first | (go_simp; done) | (go_simp; with_reducible rfl)
            try simp only [Act.put, List.setIfInBounds_toArray, List.set_cons_zero, List.set_cons_succ]
            refine wpAnyH_take (i := 9) (oi := { dst := some 42, op := Op.move (Operand.tmp 0), type := 61, pos := "l08_writer.go:83", after := #[], guard := none }) (v := ?_) rfl (by kernel_rfl) (by kernel_rfl) (by kernel_rfl) (fun _ _ _ h => h) (Or.inl ⟨by rfl, ?_⟩) (by assumption) ?_
            rotate_left 1
            · intro w hSw
              (try dsimp only at hSw)
              first | (go_simp; done) | (go_simp; with_reducible rfl)
            try simp only [Act.put, List.setIfInBounds_toArray, List.set_cons_zero, List.set_cons_succ]
            refine wpAnyH_take (i := 10) (oi := { dst := some 43, op := Op.fieldAddr 26 (Operand.tmp 3) 0, type := 0, pos := "l08_writer.go:83", after := #[], guard := none }) (v := ?_) rfl (by kernel_rfl) (by kernel_rfl) (by kernel_rfl) (fun _ _ _ h => h) (Or.inl ⟨by rfl, ?_⟩) (by assumption) ?_
            rotate_left 1
            · intro w hSw
              (try dsimp only at hSw)
              first | (go_simp; done) | (go_simp; with_reducible rfl)
            try simp only [Act.put, List.setIfInBounds_toArray, List.set_cons_zero, List.set_cons_succ]
            refine wpAnyH_take (i := 11) (oi := { dst := some 44, op := Op.load 24 (Operand.tmp 43), type := 24, pos := "l08_writer.go:83", after := #[{ on := 10, ground := Ground.data }], guard := none }) (v := ?_) rfl (by kernel_rfl) (by kernel_rfl) (by kernel_rfl) (fun _ _ _ h => h) (Or.inl ⟨by rfl, ?_⟩) (by assumption) ?_
            rotate_left 1
            · intro w hSw
              (try dsimp only at hSw)
              first | (go_simp; done) | (go_simp; with_reducible rfl)
            try simp only [Act.put, List.setIfInBounds_toArray, List.set_cons_zero, List.set_cons_succ]
            refine wpAnyH_take (i := 12) (oi := { dst := some 45, op := Op.call { callee := Callee.builtin Builtin.len, args := #[Operand.tmp 44], argTypes := #[24] }, type := 3, pos := "l08_writer.go:83", after := #[{ on := 11, ground := Ground.data }], guard := none }) (v := ?_) rfl (by kernel_rfl) (by kernel_rfl) (by kernel_rfl) (fun _ _ _ h => h) (Or.inl ⟨by rfl, ?_⟩) (by assumption) ?_
            rotate_left 1
            · intro w hSw
              (try dsimp only at hSw)
              first | (go_simp; done) | (go_simp; with_reducible rfl)
            try simp only [Act.put, List.setIfInBounds_toArray, List.set_cons_zero, List.set_cons_succ]
            refine wpAnyH_ready (rs := [6]) (by kernel_rfl) (by simp) ?_
            refine AllReadyH.cons (o := { dst := some 39, op := Op.call { callee := Callee.value (Operand.func 78), args := #[Operand.tmp 38, Operand.const (Value.int IntKind.i64 1)], argTypes := #[3, 3] }, type := 3, pos := "l08_writer.go:83", after := #[{ on := 5, ground := Ground.data }], guard := none }) rfl (fun K hK => ?_) AllReadyH.nil
            go_simp
            refine (l1Max_one m.words.length wd).mono ?_
            rintro e wd ⟨rfl, rfl⟩
            (try go_wp2_with fail)
            refine hK.out _ _ (by first | with_reducible exact Dc.cells | with_reducible exact pDd | go_keep) (fun hHeld => ?_)
            clear hK K
            try simp only [Act.put, List.setIfInBounds_toArray, List.set_cons_zero, List.set_cons_succ]
            refine wpAnyH_ready (rs := [7]) (by kernel_rfl) (by simp) ?_
            refine AllReadyH.cons (o := { dst := some 40, op := Op.call { callee := Callee.value (Operand.func 57), args := #[Operand.tmp 35, Operand.tmp 39], argTypes := #[61, 3] }, type := 3, pos := "l08_writer.go:83", after := #[{ on := 2, ground := Ground.data }, { on := 6, ground := Ground.data }, { on := 6, ground := Ground.chain }], guard := none }) rfl (fun K hK => ?_) AllReadyH.nil
            go_simp
            refine (l1Below_any bk (max m.words.length 1) (by omega) (by omega) wd Dc.cur).mono ?_
            rintro e wd ⟨⟨y7, hy7, rfl⟩, hc7, hd7⟩
            replace Dc := Dc.move hk ht hne hc7 hd7
            replace Nc := Nc.drawn hd7 (by omega) (by omega)
            replace hsz : w3.heap.size ≤ wd.heap.size := Nat.le_trans hsz hd7.size
            have hwy : IntKind.i64.wrap (1 + (y7 : Int)) = 1 + (y7 : Int) := by rw [IntKind.wrap_i64]; omega
            clear hc7 hd7
            (try go_wp2_with fail)
            refine hK.out _ _ (by first | with_reducible exact Dc.cells | with_reducible exact pDd | go_keep) (fun hHeld => ?_)
            clear hK K
            try simp only [Act.put, List.setIfInBounds_toArray, List.set_cons_zero, List.set_cons_succ]
            refine wpAnyH_take (i := 8) (oi := { dst := some 41, op := Op.binOp BinOp.add 3 (Operand.const (Value.int IntKind.i64 1)) (Operand.tmp 40) 3, type := 3, pos := "l08_writer.go:83", after := #[{ on := 7, ground := Ground.data }], guard := none }) (v := ?_) rfl (by kernel_rfl) (by kernel_rfl) (by kernel_rfl) (fun _ _ _ h => h) (Or.inl ⟨by rfl, ?_⟩) (by assumption) ?_
            rotate_left 1
            · intro w hSw
              (try dsimp only at hSw)
              first | (go_simp; done) | (go_simp; with_reducible rfl)
            try simp only [Act.put, List.setIfInBounds_toArray, List.set_cons_zero, List.set_cons_succ]
            refine wpAnyH_ready (rs := [13]) (by kernel_rfl) (by simp) ?_
            refine AllReadyH.cons (o := { dst := some 46, op := Op.call { callee := Callee.value (Operand.func 57), args := #[Operand.tmp 42, Operand.tmp 45], argTypes := #[61, 3] }, type := 3, pos := "l08_writer.go:83", after := #[{ on := 9, ground := Ground.data }, { on := 12, ground := Ground.data }, { on := 7, ground := Ground.chain }], guard := none }) rfl (fun K hK => ?_) AllReadyH.nil
            go_simp
            refine (l1Below_all bk ds.length (by omega) wd Dc.cur).mono ?_
            rintro e wd ⟨⟨z7, hz7, rfl⟩, hc7, hd7⟩
            replace Dc := Dc.move hk ht hne hc7 hd7
            replace Nc := Nc.drawn hd7 (by omega) (by omega)
            replace hsz : w3.heap.size ≤ wd.heap.size := Nat.le_trans hsz hd7.size
            clear hc7 hd7
            (try go_wp2_with fail)
            refine hK.out _ _ (by first | with_reducible exact Dc.cells | with_reducible exact pDd | go_keep) (fun hHeld => ?_)
            clear hK K
            try simp only [Act.put, List.setIfInBounds_toArray, List.set_cons_zero, List.set_cons_succ]
            refine wpAnyH_ready (rs := [14]) (by kernel_rfl) (by simp) ?_
            refine AllReadyH.cons (o := { dst := some 47, op := Op.call { callee := Callee.value (Operand.func 77), args := #[Operand.tmp 33, Operand.tmp 34, Operand.tmp 41, Operand.tmp 46], argTypes := #[26, 40, 3, 3] }, type := 44, pos := "l08_writer.go:83", after := #[{ on := 0, ground := Ground.data }, { on := 1, ground := Ground.data }, { on := 8, ground := Ground.data }, { on := 13, ground := Ground.data }, { on := 13, ground := Ground.chain }], guard := none }) rfl (fun K hK => ?_) AllReadyH.nil
            go_simp
            have C6 := dUnhide CQ wd Dc y7 z7 (by omega) (by omega)
            have R6 := dUnhide HC y7 z7 (by omega)
            have hN7 := Nc.lt
            generalize ackM ds cop m (1 + (y7 : Int)) (z7 : Int) = AM at *
            obtain ⟨m6, k6⟩ := AM
            try simp only at C6 R6
            try simp only
            obtain ⟨lo6, el6⟩ : ∃ l, wd.heap.size = l := ⟨_, rfl⟩
            refine C6.mono ?_
            clear C6
            rintro e wd' ⟨⟨u6, rfl, O6⟩, b6⟩
            obtain ⟨a6, c6, rfl⟩ := O6.slice
            replace Dc := Dc.below b6
            replace Nc := Nc.below b6
            have I6 := O6.in_
            rw [el6] at I6 hN7
            have hs6 := b6.size
            have hl6 : bt + 1 ≤ lo6 := by omega
            replace hsz : w3.heap.size ≤ wd'.heap.size := by omega
            obtain ⟨hi6, eh6⟩ : ∃ l, wd'.heap.size = l := ⟨_, rfl⟩
            rw [eh6] at I6
            have hh6 : hi6 ≤ wd'.heap.size := by omega
            clear b6 O6 hs6 el6 eh6
            generalize wd' = wd at *
            (try go_wp2_with fail)
            refine hK.out _ _ (by first | with_reducible exact Dc.cells | with_reducible exact pDd | go_keep) (fun hHeld => ?_)
            clear hK K
            try simp only [Act.put, List.setIfInBounds_toArray, List.set_cons_zero, List.set_cons_succ]
            refine wpAnyH_take (i := 15) (oi := { dst := some 32, op := Op.move (Operand.tmp 47), type := 44, pos := "l08_writer.go:83", after := #[{ on := 14, ground := Ground.data }], guard := none }) (v := ?_) rfl (by kernel_rfl) (by kernel_rfl) (by kernel_rfl) (fun _ _ _ h => h) (Or.inl ⟨by rfl, ?_⟩) (by assumption) ?_
            rotate_left 1
            · intro w hSw
              (try dsimp only at hSw)
              first | (go_simp; done) | (go_simp; with_reducible rfl)
            try simp only [Act.put, List.setIfInBounds_toArray, List.set_cons_zero, List.set_cons_succ]
            refine wpAnyH_take (i := 16) (oi := { dst := some 48, op := Op.extract (Operand.tmp 32) 0, type := 40, pos := "l08_writer.go:83", after := #[{ on := 15, ground := Ground.data }], guard := none }) (v := ?_) rfl (by kernel_rfl) (by kernel_rfl) (by kernel_rfl) (fun _ _ _ h => h) (Or.inl ⟨by rfl, ?_⟩) (by assumption) ?_
            rotate_left 1
            · intro w hSw
              (try dsimp only at hSw)
              first | (go_simp; done) | (go_simp; with_reducible rfl)
            try simp only [Act.put, List.setIfInBounds_toArray, List.set_cons_zero, List.set_cons_succ]
            refine wpAnyH_take (i := 17) (oi := { dst := some 49, op := Op.extract (Operand.tmp 32) 1, type := 4, pos := "l08_writer.go:83", after := #[{ on := 15, ground := Ground.data }, { on := 18, ground := Ground.gcOnly Departure.lateStores }], guard := none }) (v := ?_) rfl (by kernel_rfl) (by kernel_rfl) (by kernel_rfl) (fun _ _ _ h => h) (Or.inl ⟨by rfl, ?_⟩) (by assumption) ?_
            rotate_left 1
            · intro w hSw
              (try dsimp only at hSw)
              first | (go_simp; done) | (go_simp; with_reducible rfl)
            try simp only [Act.put, List.setIfInBounds_toArray, List.set_cons_zero, List.set_cons_succ]
            refine wpAnyH_ready (rs := [18]) (by kernel_rfl) (by simp) ?_
            refine AllReadyH.cons (o := { dst := none, op := Op.store 40 (Operand.tmp 7) (Operand.tmp 48), type := 0, pos := "l08_writer.go:83", after := #[{ on := 16, ground := Ground.data }, { on := 14, ground := Ground.chain }, { on := 0, ground := Ground.phase }, { on := 1, ground := Ground.phase }, { on := 2, ground := Ground.phase }, { on := 3, ground := Ground.phase }, { on := 4, ground := Ground.phase }, { on := 5, ground := Ground.phase }, { on := 6, ground := Ground.phase }, { on := 7, ground := Ground.phase }, { on := 8, ground := Ground.phase }, { on := 9, ground := Ground.phase }, { on := 10, ground := Ground.phase }, { on := 11, ground := Ground.phase }, { on := 12, ground := Ground.phase }, { on := 13, ground := Ground.phase }, { on := 14, ground := Ground.phase }, { on := 15, ground := Ground.phase }, { on := 16, ground := Ground.phase }, { on := 17, ground := Ground.textOnly Departure.lateStores }], guard := none }) rfl (fun K hK => ?_) AllReadyH.nil
            obtain ⟨z0, f0⟩ := Nc.box.2 0 _ rfl
            obtain ⟨z1, f1⟩ := Nc.box.2 1 _ rfl
            go_simp
            have N8 := DV.put (m := m6) I6 hh6 Nc.box (.inl hN7)
            replace Dc := (Dc.set hk ht hw hbo (by omega) 0 (.int .i64 m6.epoch)).set hk ht hw hbo (by omega) 1 (.slice a6 m6.words.length c6)
            clear z0 f0 z1 f1 Nc I6
            refine hK.out _ _ (by first | with_reducible exact Dc.cells | with_reducible exact pDd | go_keep) (fun hHeld => ?_)
            clear hK K
            try simp only [Act.put, List.setIfInBounds_toArray, List.set_cons_zero, List.set_cons_succ]
            refine wpAnyH_take (i := 19) (oi := { dst := some 9, op := Op.assign (Operand.tmp 49), type := 4, pos := "l08_writer.go:83", after := #[{ on := 17, ground := Ground.data }, { on := 18, ground := Ground.chain }, { on := 0, ground := Ground.phase }, { on := 1, ground := Ground.phase }, { on := 2, ground := Ground.phase }, { on := 3, ground := Ground.phase }, { on := 4, ground := Ground.phase }, { on := 5, ground := Ground.phase }, { on := 6, ground := Ground.phase }, { on := 7, ground := Ground.phase }, { on := 8, ground := Ground.phase }, { on := 9, ground := Ground.phase }, { on := 10, ground := Ground.phase }, { on := 11, ground := Ground.phase }, { on := 12, ground := Ground.phase }, { on := 13, ground := Ground.phase }, { on := 14, ground := Ground.phase }, { on := 15, ground := Ground.phase }, { on := 16, ground := Ground.phase }, { on := 17, ground := Ground.phase }, { on := 18, ground := Ground.phase }], guard := none }) (v := ?_) rfl (by kernel_rfl) (by kernel_rfl) (by kernel_rfl) (fun _ _ _ h => h) (Or.inl ⟨by rfl, ?_⟩) (by assumption) ?_
            rotate_left 1
            · intro w hSw
              (try dsimp only at hSw)
              first | (go_simp; done) | (go_simp; with_reducible rfl)
            try simp only [Act.put, List.setIfInBounds_toArray, List.set_cons_zero, List.set_cons_succ]
            refine wpAnyH_done (by kernel_rfl) ?_ _
            refine NoPanic.normal ?_
            go_wp2_with fail
            go_meet
            case rel => exact ⟨lo6, hi6, m6, k6, a6, c6, rfl, hl6, R6, N8, Dc⟩
        case rest =>
          obtain ⟨lo5, hi5, m5, mb5, a5, c5, rfl, hlo5, hR5, N5, D5⟩ := hcut
          clear CQ HC N4 D4 pD4
          generalize wc = w5 at *
          have hs5 : w3.heap.size ≤ w5.heap.size := Nat.le_of_lt (Nat.lt_of_le_of_lt hbo N5.lt)
          obtain ⟨y0, -⟩ := N5.box.2 0 _ rfl
          obtain ⟨y1, -⟩ := N5.box.2 1 _ rfl
          obtain ⟨z0, f0⟩ := D5.wri.box.2 0 _ rfl
          obtain ⟨z1, f1⟩ := D5.wri.box.2 1 _ rfl
          have HT := dHide (D5.take hk ht hw N5 hlo5 hR5)
          have HD := dHide (D5.weak (B' := w5.heap.size) (n' := k + 1) (by omega) (Nat.le_refl _) (by omega))
          clear D5 N5
          cases mb5
          · go_wp2
            go_roundw
            case rel => exact ⟨k + 1, m, a, c, by go_num, by omega, dUnhide HD⟩
            case measure => simp [intOf]; omega
          · go_wp2
            go_roundw
            case rel => exact ⟨k + 1, _, _, _, by go_num, by omega, (dUnhide HT).weak (by simp) (Nat.le_refl _) (Nat.le_refl _)⟩
            case measure => simp [intOf]; omega
    · obtain ⟨z0, f0⟩ := D.res.2 0 _ rfl
      obtain ⟨z1, f1⟩ := D.res.2 1 _ rfl
      obtain ⟨-, -, k0, k1⟩ := D.cells
      have ZZ := dHide ((D.res.put 0 (.int .i64 m.epoch)).put 1 (.slice a m.words.length c))
      have OO : Hid (WIn (bt + 1) w3.heap.size (.slice a m.words.length c) m.words ((w3.setCell ⟨w.heap.size + 1, 0, none⟩ (.int .i64 m.epoch)).setCell ⟨w.heap.size + 1, 1, none⟩ (.slice a m.words.length c))) := D.wri.own.same fun j h1 h2 => by
        rw [Below.heap_setCell _ _ _ j (by simp only; omega), Below.heap_setCell _ _ _ j (by simp only; omega)]
      have CC := dHide ((D.cur.setNew4 (b := w.heap.size + 1) (by omega) 0 (.int .i64 m.epoch)).setNew4 (b := w.heap.size + 1) (by omega) 1 (.slice a m.words.length c))
      have DD := dHide ((D.drawn.setNew (b := w.heap.size + 1) (by omega) 0 (.int .i64 m.epoch)).setNew (b := w.heap.size + 1) (by omega) 1 (.slice a m.words.length c))
      have RR := dHide (D.fit.more hkn)
      have hV : w3.heap.size = ((w3.setCell ⟨w.heap.size + 1, 0, none⟩ (.int .i64 m.epoch)).setCell ⟨w.heap.size + 1, 1, none⟩ (.slice a m.words.length c)).heap.size := by simp
      clear D
      go_wp2_with fail
      generalize (w3.setCell ⟨w.heap.size + 1, 0, none⟩ (.int .i64 m.epoch)).setCell ⟨w.heap.size + 1, 1, none⟩ (.slice a m.words.length c) = V at *
      have q0 := ((dUnhide ZZ).2 0 _ rfl).1
      have q1 := ((dUnhide ZZ).2 1 _ rfl).1
      rw [hV] at OO
      refine bodyPost_ret (v := .agg #[.int .i64 m.epoch, .slice a m.words.length c]) (by simp [results, Tryz.results42, go_sem, q0, q1]) rfl ⟨⟨m, a, c, rfl, (dUnhide OO).wide (by omega) (Nat.le_refl _), dUnhide RR⟩, dUnhide CC, dUnhide DD⟩
end Go.Proofs.YthndkkjgjhgdnaaGreatDoor
