/- impl's WorldOk; both answers (printed by tools/mkwkz.py). -/
import Derived.Test.YtodfgehicpejgaaGreatDoorWkF
import Derived.Test.YtodfgehicpejgaaGreatDoorGk149
namespace Go.Proofs.YtodfgehicpejgaaGreatDoor
open Go.ChangeShapes Go.WideShapes Go.ChangeAt Go.RowKit
set_option linter.unusedVariables false
set_option linter.unusedSimpArgs false
set_option maxRecDepth 100000

def ivN (m : Wo) : Nat → Prop
 | 0 => ivC m
 | 1 => ivS m
 | 2 => ivL m
 | 3 => ivT m
 | 4 => ivG m
 | 5 => ivW m
 | 6 => ivM m
 | 7 => reaP m
 | 8 => ivX m
 | _ => True
theorem woP_all (m : Wo) : woP m ↔ ∀ j, j < 9 → ivN m j := by
 rw [woP_iff]
 constructor
 ·rintro ⟨h0, h1, h2, h3, h4, h5, h6, h7, h8⟩ j hj
  match j, hj with
  | 0, _ => exact h0
  | 1, _ => exact h1
  | 2, _ => exact h2
  | 3, _ => exact h3
  | 4, _ => exact h4
  | 5, _ => exact h5
  | 6, _ => exact h6
  | 7, _ => exact h7
  | 8, _ => exact h8
  | n + 9, h => omega
 ·intro h
  exact ⟨h 0 (by omega), h 1 (by omega), h 2 (by omega), h 3 (by omega), h 4 (by omega), h 5 (by omega), h 6 (by omega), h 7 (by omega), h 8 (by omega)⟩
theorem RetB.step {m : Wo} {k : Nat} (hk : k < 9) {b : Bool} (h : b = true ↔ ivN m k) (hb : b = false) : RetB (woP m) (.returned (.bool false)) := RetB.no fun q => by
 have := h.2 ((woP_all m).1 q k hk)
 rw [hb] at this
 cases this
theorem ivN_next {m : Wo} {k : Nat} (h : ∀ j, j < k → ivN m j) (hk : ivN m k) : ∀ j, j < k + 1 → ivN m j := fun j hj => by
 by_cases e : j = k
 ·subst e; exact hk
 ·exact h j (by omega)
set_option maxHeartbeats 8000000 in
theorem implWorldOk_any (v : Value) (m : Wo) (w : World) (ok : okWorld m) (hs : sizWorld m ≤ 1048576) (hv : RdWorld v m w) :
  Calls Tryz.prog 11 #[v] w fun e w' => RetB (woP m) e ∧ Below w.heap.size w w' := by
 have C0 := dH fun W (hb : Below w.heap.size w W) => configRight_any v m W ok hs (hv.below hb)
 have C1 := dH fun W (hb : Below w.heap.size w W) => storesRight_any v m W ok hs (hv.below hb)
 have C2 := dH fun W (hb : Below w.heap.size w W) (hsl : m.stores.length = m.cfg.1.length) => lostRight_any v m W ok hs hsl (hv.below hb)
 have C3 := dH fun W (hb : Below w.heap.size w W) => tornRight_any v m W ok hs (hv.below hb)
 have C4 := dH fun W (hb : Below w.heap.size w W) => registerRight_any v m W ok hs (hv.below hb)
 have C5 := dH fun W (hb : Below w.heap.size w W) => writersRight_any v m W ok hs (hv.below hb)
 have C6 := dH fun W (hb : Below w.heap.size w W) => mendsRight_any v m W ok hs (hv.below hb)
 have C7 := dH fun W (hb : Below w.heap.size w W) => readersRight_any v m W ok hs (hv.below hb)
 have C8 := dH fun W (hb : Below w.heap.size w W) => sentRight_any v m W ok hs (hv.below hb)
 obtain ⟨da, dc, sa, sc, la, lc, ea, ec, wa, wc, na, nc, ra, rc', ta, tc, rfl, -, -, -, -, -, -, -, -⟩ := partsWorld hv
 have YES : Hid ((∀ j, j < 9 → ivN m j) → RetB (woP m) (.returned (.bool true))) := fun h => RetB.yes ((woP_all m).2 h)
 have NO : Hid (∀ k b, k < 9 → (b = true ↔ ivN m k) → b = false → RetB (woP m) (.returned (.bool false))) := fun k b hk h hb => RetB.step hk h hb
 have NX : Hid (∀ k, (∀ j, j < k → ivN m j) → ivN m k → ∀ j, j < k + 1 → ivN m j) := fun k h hk => ivN_next h hk
 have D0 : Hid (ivN m 0 = ivC m) := rfl
 have D1 : Hid (ivN m 1 = ivS m) := rfl
 have D2 : Hid (ivN m 2 = ivL m) := rfl
 have D3 : Hid (ivN m 3 = ivT m) := rfl
 have D4 : Hid (ivN m 4 = ivG m) := rfl
 have D5 : Hid (ivN m 5 = ivW m) := rfl
 have D6 : Hid (ivN m 6 = ivM m) := rfl
 have D7 : Hid (ivN m 7 = reaP m) := rfl
 have D8 : Hid (ivN m 8 = ivX m) := rfl
 have SL : Hid (ivN m 1 → m.stores.length = m.cfg.1.length) := fun h => h.1
 generalize ivN m = Q at *
 rw [← dU D0] at C0
 rw [← dU D1] at C1
 rw [← dU D2] at C2
 rw [← dU D3] at C3
 rw [← dU D4] at C4
 rw [← dU D5] at C5
 rw [← dU D6] at C6
 rw [← dU D7] at C7
 rw [← dU D8] at C8
 clear D0 D1 D2 D3 D4 D5 D6 D7 D8
 generalize woP m = P at *
 clear ok hs hv
 have C2' := dH fun W (hb : Below w.heap.size w W) (h : Q 1) => dU C2 W hb (dU SL h)
 clear C2 SL
 obtain ⟨⟨ds, cop⟩, stores, lost, ⟨eras, trim⟩, writers, mends, readers, sent, torn⟩ := m
 simp only at *
 have B0 : Below w.heap.size w (w.alloc (.cells #[.slice da ds.length dc, .int .i64 cop, .slice sa stores.length sc, .slice la lost.length lc, .slice ea eras.length ec, .int .i64 trim, .slice wa writers.length wc, .slice na mends.length nc, .slice ra readers.length rc', .slice ta sent.length tc, .bool torn] 37)) := (Below.refl _ _).alloc (Nat.le_refl _) _
 have X0 := Bx.new w [.slice da ds.length dc, .int .i64 cop, .slice sa stores.length sc, .slice la lost.length lc, .slice ea eras.length ec, .int .i64 trim, .slice wa writers.length wc, .slice na mends.length nc, .slice ra readers.length rc', .slice ta sent.length tc, .bool torn] 37
 have b1 : Below (w.alloc (.cells #[.slice da ds.length dc, .int .i64 cop, .slice sa stores.length sc, .slice la lost.length lc, .slice ea eras.length ec, .int .i64 trim, .slice wa writers.length wc, .slice na mends.length nc, .slice ra readers.length rc', .slice ta sent.length tc, .bool torn] 37)).heap.size (w.alloc (.cells #[.slice da ds.length dc, .int .i64 cop, .slice sa stores.length sc, .slice la lost.length lc, .slice ea eras.length ec, .int .i64 trim, .slice wa writers.length wc, .slice na mends.length nc, .slice ra readers.length rc', .slice ta sent.length tc, .bool torn] 37)) ((w.alloc (.cells #[.slice da ds.length dc, .int .i64 cop, .slice sa stores.length sc, .slice la lost.length lc, .slice ea eras.length ec, .int .i64 trim, .slice wa writers.length wc, .slice na mends.length nc, .slice ra readers.length rc', .slice ta sent.length tc, .bool torn] 37)).alloc (.cells #[.func (.func 23) #[] #[], .func (.func 24) #[] #[], .func (.func 25) #[] #[], .func (.func 26) #[] #[], .func (.func 27) #[] #[], .func (.func 28) #[] #[], .func (.func 29) #[] #[], .func (.func 30) #[] #[], .func (.func 31) #[] #[]] 66)) := (Below.refl _ _).alloc (Nat.le_refl _) _
 have B1 := bT B0 b1
 have HX := dH (X0.below b1)
 clear X0 B0 b1
 have SF : ∀ (F : Nat) (a : Addr) (w : World), (store a (.func (.func F) #[] #[])).run Tryz.prog w = stored Tryz.prog w a (.func (.func F) #[] #[]) .plain := fun F a w => run_store Tryz.prog w a _ .plain rfl
 go_enter Tryz.func11, Tryz.ntmps11
 go_wp2
 clear SF
 generalize (w.alloc (.cells #[.slice da ds.length dc, .int .i64 cop, .slice sa stores.length sc, .slice la lost.length lc, .slice ea eras.length ec, .int .i64 trim, .slice wa writers.length wc, .slice na mends.length nc, .slice ra readers.length rc', .slice ta sent.length tc, .bool torn] 37)).alloc (.cells #[.func (.func 23) #[] #[], .func (.func 24) #[] #[], .func (.func 25) #[] #[], .func (.func 26) #[] #[], .func (.func 27) #[] #[], .func (.func 28) #[] #[], .func (.func 29) #[] #[], .func (.func 30) #[] #[], .func (.func 31) #[] #[]] 66) = w1 at *
 go_loopw [8] (fun y wr => ∃ k : Nat, y = .int .i64 (k : Int) ∧ k ≤ 9 ∧ Hid (∀ j, j < k → Q j) ∧ Below w1.heap.size w1 wr) (fun y _ => 9 - (intOf y).toNat)
 case atStart => exact ⟨0, rfl, by omega, fun j h => by omega, Below.refl _ _⟩
 case round =>
  obtain ⟨k, rfl, hk, hc, hb⟩ := hrel
  have hB := bT B1 hb
  have X2 := (dU HX).below hb
  have k0 := X2 0 _ rfl
  have k1 := X2 1 _ rfl
  have k2 := X2 2 _ rfl
  have k3 := X2 3 _ rfl
  have k4 := X2 4 _ rfl
  have k5 := X2 5 _ rfl
  have k6 := X2 6 _ rfl
  have k7 := X2 7 _ rfl
  have k8 := X2 8 _ rfl
  have k9 := X2 9 _ rfl
  have k10 := X2 10 _ rfl
  clear X2
  by_cases hlt : (k : Int) < 9
  ·rcases (show k = 0 ∨ k = 1 ∨ k = 2 ∨ k = 3 ∨ k = 4 ∨ k = 5 ∨ k = 6 ∨ k = 7 ∨ k = 8 by omega) with rfl | rfl | rfl | rfl | rfl | rfl | rfl | rfl | rfl
   ·have CE := dH (dU C0 _ hB)
    have IX : ∀ w : World, (Instr.index 66 (.agg #[.func (.func 23) #[] #[], .func (.func 24) #[] #[], .func (.func 25) #[] #[], .func (.func 26) #[] #[], .func (.func 27) #[] #[], .func (.func 28) #[] #[], .func (.func 29) #[] #[], .func (.func 30) #[] #[], .func (.func 31) #[] #[]]) (.int .i64 0)).run Tryz.prog w = .ok (.func (.func 23) #[] #[]) w := fun w => by first | rfl | kernel_rfl | simp [Instr.index, go_sem]
    clear C0 C1 C3 C4 C5 C6 C7 C8 C2'
    go_wp2_with fail
    refine (dU CE).mono ?_
    rintro e w2 ⟨⟨b2, rfl, h2⟩, bl2⟩
    have hb2 := bT hb bl2
    have hB2 := bT hB bl2
    clear CE bl2 IX k0 k1 k2 k3 k4 k5 k6 k7 k8 k9 k10
    cases b2 with
    | false =>
     have R := dU NO 0 false (by omega) h2 rfl
     clear NO NX YES h2 hc
     go_wp2
     go_ret
     exact ⟨R, hB2⟩
    | true =>
     have H2 := dH (dU NX 0 (dU hc) (h2.1 rfl))
     clear NO NX h2 hc
     go_wp2
     go_roundw
     case rel => exact ⟨0 + 1, by go_num, by omega, dU H2, hb2⟩
     case measure => simp [intOf]
   ·have CE := dH (dU C1 _ hB)
    have IX : ∀ w : World, (Instr.index 66 (.agg #[.func (.func 23) #[] #[], .func (.func 24) #[] #[], .func (.func 25) #[] #[], .func (.func 26) #[] #[], .func (.func 27) #[] #[], .func (.func 28) #[] #[], .func (.func 29) #[] #[], .func (.func 30) #[] #[], .func (.func 31) #[] #[]]) (.int .i64 1)).run Tryz.prog w = .ok (.func (.func 24) #[] #[]) w := fun w => by first | rfl | kernel_rfl | simp [Instr.index, go_sem]
    clear C0 C1 C3 C4 C5 C6 C7 C8 C2'
    go_wp2_with fail
    refine (dU CE).mono ?_
    rintro e w2 ⟨⟨b2, rfl, h2⟩, bl2⟩
    have hb2 := bT hb bl2
    have hB2 := bT hB bl2
    clear CE bl2 IX k0 k1 k2 k3 k4 k5 k6 k7 k8 k9 k10
    cases b2 with
    | false =>
     have R := dU NO 1 false (by omega) h2 rfl
     clear NO NX YES h2 hc
     go_wp2
     go_ret
     exact ⟨R, hB2⟩
    | true =>
     have H2 := dH (dU NX 1 (dU hc) (h2.1 rfl))
     clear NO NX h2 hc
     go_wp2
     go_roundw
     case rel => exact ⟨1 + 1, by go_num, by omega, dU H2, hb2⟩
     case measure => simp [intOf]
   ·have CE := dH (dU C2' _ hB (dU hc 1 (by omega)))
    have IX : ∀ w : World, (Instr.index 66 (.agg #[.func (.func 23) #[] #[], .func (.func 24) #[] #[], .func (.func 25) #[] #[], .func (.func 26) #[] #[], .func (.func 27) #[] #[], .func (.func 28) #[] #[], .func (.func 29) #[] #[], .func (.func 30) #[] #[], .func (.func 31) #[] #[]]) (.int .i64 2)).run Tryz.prog w = .ok (.func (.func 25) #[] #[]) w := fun w => by first | rfl | kernel_rfl | simp [Instr.index, go_sem]
    clear C0 C1 C3 C4 C5 C6 C7 C8 C2'
    go_wp2_with fail
    refine (dU CE).mono ?_
    rintro e w2 ⟨⟨b2, rfl, h2⟩, bl2⟩
    have hb2 := bT hb bl2
    have hB2 := bT hB bl2
    clear CE bl2 IX k0 k1 k2 k3 k4 k5 k6 k7 k8 k9 k10
    cases b2 with
    | false =>
     have R := dU NO 2 false (by omega) h2 rfl
     clear NO NX YES h2 hc
     go_wp2
     go_ret
     exact ⟨R, hB2⟩
    | true =>
     have H2 := dH (dU NX 2 (dU hc) (h2.1 rfl))
     clear NO NX h2 hc
     go_wp2
     go_roundw
     case rel => exact ⟨2 + 1, by go_num, by omega, dU H2, hb2⟩
     case measure => simp [intOf]
   ·have CE := dH (dU C3 _ hB)
    have IX : ∀ w : World, (Instr.index 66 (.agg #[.func (.func 23) #[] #[], .func (.func 24) #[] #[], .func (.func 25) #[] #[], .func (.func 26) #[] #[], .func (.func 27) #[] #[], .func (.func 28) #[] #[], .func (.func 29) #[] #[], .func (.func 30) #[] #[], .func (.func 31) #[] #[]]) (.int .i64 3)).run Tryz.prog w = .ok (.func (.func 26) #[] #[]) w := fun w => by first | rfl | kernel_rfl | simp [Instr.index, go_sem]
    clear C0 C1 C3 C4 C5 C6 C7 C8 C2'
    go_wp2_with fail
    refine (dU CE).mono ?_
    rintro e w2 ⟨⟨b2, rfl, h2⟩, bl2⟩
    have hb2 := bT hb bl2
    have hB2 := bT hB bl2
    clear CE bl2 IX k0 k1 k2 k3 k4 k5 k6 k7 k8 k9 k10
    cases b2 with
    | false =>
     have R := dU NO 3 false (by omega) h2 rfl
     clear NO NX YES h2 hc
     go_wp2
     go_ret
     exact ⟨R, hB2⟩
    | true =>
     have H2 := dH (dU NX 3 (dU hc) (h2.1 rfl))
     clear NO NX h2 hc
     go_wp2
     go_roundw
     case rel => exact ⟨3 + 1, by go_num, by omega, dU H2, hb2⟩
     case measure => simp [intOf]
   ·have CE := dH (dU C4 _ hB)
    have IX : ∀ w : World, (Instr.index 66 (.agg #[.func (.func 23) #[] #[], .func (.func 24) #[] #[], .func (.func 25) #[] #[], .func (.func 26) #[] #[], .func (.func 27) #[] #[], .func (.func 28) #[] #[], .func (.func 29) #[] #[], .func (.func 30) #[] #[], .func (.func 31) #[] #[]]) (.int .i64 4)).run Tryz.prog w = .ok (.func (.func 27) #[] #[]) w := fun w => by first | rfl | kernel_rfl | simp [Instr.index, go_sem]
    clear C0 C1 C3 C4 C5 C6 C7 C8 C2'
    go_wp2_with fail
    refine (dU CE).mono ?_
    rintro e w2 ⟨⟨b2, rfl, h2⟩, bl2⟩
    have hb2 := bT hb bl2
    have hB2 := bT hB bl2
    clear CE bl2 IX k0 k1 k2 k3 k4 k5 k6 k7 k8 k9 k10
    cases b2 with
    | false =>
     have R := dU NO 4 false (by omega) h2 rfl
     clear NO NX YES h2 hc
     go_wp2
     go_ret
     exact ⟨R, hB2⟩
    | true =>
     have H2 := dH (dU NX 4 (dU hc) (h2.1 rfl))
     clear NO NX h2 hc
     go_wp2
     go_roundw
     case rel => exact ⟨4 + 1, by go_num, by omega, dU H2, hb2⟩
     case measure => simp [intOf]
   ·have CE := dH (dU C5 _ hB)
    have IX : ∀ w : World, (Instr.index 66 (.agg #[.func (.func 23) #[] #[], .func (.func 24) #[] #[], .func (.func 25) #[] #[], .func (.func 26) #[] #[], .func (.func 27) #[] #[], .func (.func 28) #[] #[], .func (.func 29) #[] #[], .func (.func 30) #[] #[], .func (.func 31) #[] #[]]) (.int .i64 5)).run Tryz.prog w = .ok (.func (.func 28) #[] #[]) w := fun w => by first | rfl | kernel_rfl | simp [Instr.index, go_sem]
    clear C0 C1 C3 C4 C5 C6 C7 C8 C2'
    go_wp2_with fail
    refine (dU CE).mono ?_
    rintro e w2 ⟨⟨b2, rfl, h2⟩, bl2⟩
    have hb2 := bT hb bl2
    have hB2 := bT hB bl2
    clear CE bl2 IX k0 k1 k2 k3 k4 k5 k6 k7 k8 k9 k10
    cases b2 with
    | false =>
     have R := dU NO 5 false (by omega) h2 rfl
     clear NO NX YES h2 hc
     go_wp2
     go_ret
     exact ⟨R, hB2⟩
    | true =>
     have H2 := dH (dU NX 5 (dU hc) (h2.1 rfl))
     clear NO NX h2 hc
     go_wp2
     go_roundw
     case rel => exact ⟨5 + 1, by go_num, by omega, dU H2, hb2⟩
     case measure => simp [intOf]
   ·have CE := dH (dU C6 _ hB)
    have IX : ∀ w : World, (Instr.index 66 (.agg #[.func (.func 23) #[] #[], .func (.func 24) #[] #[], .func (.func 25) #[] #[], .func (.func 26) #[] #[], .func (.func 27) #[] #[], .func (.func 28) #[] #[], .func (.func 29) #[] #[], .func (.func 30) #[] #[], .func (.func 31) #[] #[]]) (.int .i64 6)).run Tryz.prog w = .ok (.func (.func 29) #[] #[]) w := fun w => by first | rfl | kernel_rfl | simp [Instr.index, go_sem]
    clear C0 C1 C3 C4 C5 C6 C7 C8 C2'
    go_wp2_with fail
    refine (dU CE).mono ?_
    rintro e w2 ⟨⟨b2, rfl, h2⟩, bl2⟩
    have hb2 := bT hb bl2
    have hB2 := bT hB bl2
    clear CE bl2 IX k0 k1 k2 k3 k4 k5 k6 k7 k8 k9 k10
    cases b2 with
    | false =>
     have R := dU NO 6 false (by omega) h2 rfl
     clear NO NX YES h2 hc
     go_wp2
     go_ret
     exact ⟨R, hB2⟩
    | true =>
     have H2 := dH (dU NX 6 (dU hc) (h2.1 rfl))
     clear NO NX h2 hc
     go_wp2
     go_roundw
     case rel => exact ⟨6 + 1, by go_num, by omega, dU H2, hb2⟩
     case measure => simp [intOf]
   ·have CE := dH (dU C7 _ hB)
    have IX : ∀ w : World, (Instr.index 66 (.agg #[.func (.func 23) #[] #[], .func (.func 24) #[] #[], .func (.func 25) #[] #[], .func (.func 26) #[] #[], .func (.func 27) #[] #[], .func (.func 28) #[] #[], .func (.func 29) #[] #[], .func (.func 30) #[] #[], .func (.func 31) #[] #[]]) (.int .i64 7)).run Tryz.prog w = .ok (.func (.func 30) #[] #[]) w := fun w => by first | rfl | kernel_rfl | simp [Instr.index, go_sem]
    clear C0 C1 C3 C4 C5 C6 C7 C8 C2'
    go_wp2_with fail
    refine (dU CE).mono ?_
    rintro e w2 ⟨⟨b2, rfl, h2⟩, bl2⟩
    have hb2 := bT hb bl2
    have hB2 := bT hB bl2
    clear CE bl2 IX k0 k1 k2 k3 k4 k5 k6 k7 k8 k9 k10
    cases b2 with
    | false =>
     have R := dU NO 7 false (by omega) h2 rfl
     clear NO NX YES h2 hc
     go_wp2
     go_ret
     exact ⟨R, hB2⟩
    | true =>
     have H2 := dH (dU NX 7 (dU hc) (h2.1 rfl))
     clear NO NX h2 hc
     go_wp2
     go_roundw
     case rel => exact ⟨7 + 1, by go_num, by omega, dU H2, hb2⟩
     case measure => simp [intOf]
   ·have CE := dH (dU C8 _ hB)
    have IX : ∀ w : World, (Instr.index 66 (.agg #[.func (.func 23) #[] #[], .func (.func 24) #[] #[], .func (.func 25) #[] #[], .func (.func 26) #[] #[], .func (.func 27) #[] #[], .func (.func 28) #[] #[], .func (.func 29) #[] #[], .func (.func 30) #[] #[], .func (.func 31) #[] #[]]) (.int .i64 8)).run Tryz.prog w = .ok (.func (.func 31) #[] #[]) w := fun w => by first | rfl | kernel_rfl | simp [Instr.index, go_sem]
    clear C0 C1 C3 C4 C5 C6 C7 C8 C2'
    go_wp2_with fail
    refine (dU CE).mono ?_
    rintro e w2 ⟨⟨b2, rfl, h2⟩, bl2⟩
    have hb2 := bT hb bl2
    have hB2 := bT hB bl2
    clear CE bl2 IX k0 k1 k2 k3 k4 k5 k6 k7 k8 k9 k10
    cases b2 with
    | false =>
     have R := dU NO 8 false (by omega) h2 rfl
     clear NO NX YES h2 hc
     go_wp2
     go_ret
     exact ⟨R, hB2⟩
    | true =>
     have H2 := dH (dU NX 8 (dU hc) (h2.1 rfl))
     clear NO NX h2 hc
     go_wp2
     go_roundw
     case rel => exact ⟨8 + 1, by go_num, by omega, dU H2, hb2⟩
     case measure => simp [intOf]
  ·have R := dU YES fun j hj => dU hc j (by omega)
   clear hc NO NX C0 C1 C3 C4 C5 C6 C7 C8 C2' k0 k1 k2 k3 k4 k5 k6 k7 k8 k9 k10
   go_wp2
   go_ret
   exact ⟨R, hB⟩
end Go.Proofs.YtodfgehicpejgaaGreatDoor
