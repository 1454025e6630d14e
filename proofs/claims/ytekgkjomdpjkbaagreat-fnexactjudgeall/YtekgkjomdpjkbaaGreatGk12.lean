/- Several texts in one: WkZ, JgD, JgS, JgK, Q14W. -/
import Derived.Test.YtekgkjomdpjkbaaGreatWkF
import Derived.Test.YtekgkjomdpjkbaaGreatGk21
import Derived.Test.YtekgkjomdpjkbaaGreatGz18x
import Derived.Deep.RegionHeld3
import Derived.Deep.DeepCutAuto
namespace Go.Proofs.YtekgkjomdpjkbaaGreat
open Go.ChangeShapes Go.WideShapes Go.ChangeAt Go.RowKit
set_option linter.unusedSimpArgs false
set_option linter.unusedVariables false
set_option maxRecDepth 100000
def ivN (m : Wo) : Nat → Prop
 | 0 => ivC m
 | 1 => ivS m
 | 2 => ivL m
 | 3 => ivT m
 | 4 => ivG m
 | 5 => ivW m
 | 6 => ivM m
 | 7 => reaP m
 | 8 => ivX m
 | _ => True
theorem woP_all (m : Wo) : woP m ↔ ∀ j, j < 9 → ivN m j := by
 rw [woP_iff]
 constructor
 ·rintro ⟨h0, h1, h2, h3, h4, h5, h6, h7, h8⟩ j hj
  match j, hj with
  | 0, _ => exact h0
  | 1, _ => exact h1
  | 2, _ => exact h2
  | 3, _ => exact h3
  | 4, _ => exact h4
  | 5, _ => exact h5
  | 6, _ => exact h6
  | 7, _ => exact h7
  | 8, _ => exact h8
  | n + 9, h => omega
 ·intro h
  exact ⟨h 0 (by omega), h 1 (by omega), h 2 (by omega), h 3 (by omega), h 4 (by omega), h 5 (by omega), h 6 (by omega), h 7 (by omega), h 8 (by omega)⟩
theorem RetB.step {m : Wo} {k : Nat} (hk : k < 9) {b : Bool} (h : b = true ↔ ivN m k) (hb : b = false) : RetB (woP m) (.returned (.bool false)) := RetB.no fun q => by
 have := h.2 ((woP_all m).1 q k hk)
 rw [hb] at this
 cases this
theorem ivN_next {m : Wo} {k : Nat} (h : ∀ j, j < k → ivN m j) (hk : ivN m k) : ∀ j, j < k + 1 → ivN m j := fun j hj => by
 by_cases e : j = k
 ·subst e; exact hk
 ·exact h j (by omega)
set_option maxHeartbeats 8000000 in
theorem implWorldOk_any (v : Value) (m : Wo) (w : World) (ok : okWorld m) (hs : sizWorld m ≤ 1048576) (hv : RdWorld v m w) :
  Calls Tryz.prog 72 #[v] w fun e w' => RetB (woP m) e ∧ Below w.heap.size w w' := by
 have C0 := dH fun W (hb : Below w.heap.size w W) => configRight_any v m W ok hs (hv.below hb)
 have C1 := dH fun W (hb : Below w.heap.size w W) => storesRight_any v m W ok hs (hv.below hb)
 have C2 := dH fun W (hb : Below w.heap.size w W) (hsl : m.stores.length = m.cfg.1.length) => lostRight_any v m W ok hs hsl (hv.below hb)
 have C3 := dH fun W (hb : Below w.heap.size w W) => tornRight_any v m W ok hs (hv.below hb)
 have C4 := dH fun W (hb : Below w.heap.size w W) => registerRight_any v m W ok hs (hv.below hb)
 have C5 := dH fun W (hb : Below w.heap.size w W) => writersRight_any v m W ok hs (hv.below hb)
 have C6 := dH fun W (hb : Below w.heap.size w W) => mendsRight_any v m W ok hs (hv.below hb)
 have C7 := dH fun W (hb : Below w.heap.size w W) => readersRight_any v m W ok hs (hv.below hb)
 have C8 := dH fun W (hb : Below w.heap.size w W) => sentRight_any v m W ok hs (hv.below hb)
 obtain ⟨da, dc, sa, sc, la, lc, ea, ec, wa, wc, na, nc, ra, rc', ta, tc, rfl, -, -, -, -, -, -, -, -⟩ := partsWorld hv
 have YES : Hid ((∀ j, j < 9 → ivN m j) → RetB (woP m) (.returned (.bool true))) := fun h => RetB.yes ((woP_all m).2 h)
 have NO : Hid (∀ k b, k < 9 → (b = true ↔ ivN m k) → b = false → RetB (woP m) (.returned (.bool false))) := fun k b hk h hb => RetB.step hk h hb
 have NX : Hid (∀ k, (∀ j, j < k → ivN m j) → ivN m k → ∀ j, j < k + 1 → ivN m j) := fun k h hk => ivN_next h hk
 have D0 : Hid (ivN m 0 = ivC m) := rfl
 have D1 : Hid (ivN m 1 = ivS m) := rfl
 have D2 : Hid (ivN m 2 = ivL m) := rfl
 have D3 : Hid (ivN m 3 = ivT m) := rfl
 have D4 : Hid (ivN m 4 = ivG m) := rfl
 have D5 : Hid (ivN m 5 = ivW m) := rfl
 have D6 : Hid (ivN m 6 = ivM m) := rfl
 have D7 : Hid (ivN m 7 = reaP m) := rfl
 have D8 : Hid (ivN m 8 = ivX m) := rfl
 have SL : Hid (ivN m 1 → m.stores.length = m.cfg.1.length) := fun h => h.1
 generalize ivN m = Q at *
 rw [← dU D0] at C0
 rw [← dU D1] at C1
 rw [← dU D2] at C2
 rw [← dU D3] at C3
 rw [← dU D4] at C4
 rw [← dU D5] at C5
 rw [← dU D6] at C6
 rw [← dU D7] at C7
 rw [← dU D8] at C8
 clear D0 D1 D2 D3 D4 D5 D6 D7 D8
 generalize woP m = P at *
 clear ok hs hv
 have C2' := dH fun W (hb : Below w.heap.size w W) (h : Q 1) => dU C2 W hb (dU SL h)
 clear C2 SL
 obtain ⟨⟨ds, cop⟩, stores, lost, ⟨eras, trim⟩, writers, mends, readers, sent, torn⟩ := m
 simp only at *
 have B0 : Below w.heap.size w (w.alloc (.cells #[.slice da ds.length dc, .int .i64 cop, .slice sa stores.length sc, .slice la lost.length lc, .slice ea eras.length ec, .int .i64 trim, .slice wa writers.length wc, .slice na mends.length nc, .slice ra readers.length rc', .slice ta sent.length tc, .bool torn] 47)) := (Below.refl _ _).alloc (Nat.le_refl _) _
 have X0 := Bx.new w [.slice da ds.length dc, .int .i64 cop, .slice sa stores.length sc, .slice la lost.length lc, .slice ea eras.length ec, .int .i64 trim, .slice wa writers.length wc, .slice na mends.length nc, .slice ra readers.length rc', .slice ta sent.length tc, .bool torn] 47
 have b1 : Below (w.alloc (.cells #[.slice da ds.length dc, .int .i64 cop, .slice sa stores.length sc, .slice la lost.length lc, .slice ea eras.length ec, .int .i64 trim, .slice wa writers.length wc, .slice na mends.length nc, .slice ra readers.length rc', .slice ta sent.length tc, .bool torn] 47)).heap.size (w.alloc (.cells #[.slice da ds.length dc, .int .i64 cop, .slice sa stores.length sc, .slice la lost.length lc, .slice ea eras.length ec, .int .i64 trim, .slice wa writers.length wc, .slice na mends.length nc, .slice ra readers.length rc', .slice ta sent.length tc, .bool torn] 47)) ((w.alloc (.cells #[.slice da ds.length dc, .int .i64 cop, .slice sa stores.length sc, .slice la lost.length lc, .slice ea eras.length ec, .int .i64 trim, .slice wa writers.length wc, .slice na mends.length nc, .slice ra readers.length rc', .slice ta sent.length tc, .bool torn] 47)).alloc (.cells #[.func (.func 106) #[] #[], .func (.func 107) #[] #[], .func (.func 108) #[] #[], .func (.func 109) #[] #[], .func (.func 110) #[] #[], .func (.func 111) #[] #[], .func (.func 112) #[] #[], .func (.func 113) #[] #[], .func (.func 114) #[] #[]] 162)) := (Below.refl _ _).alloc (Nat.le_refl _) _
 have B1 := bT B0 b1
 have HX := dH (X0.below b1)
 clear X0 B0 b1
 have SF : ∀ (F : Nat) (a : Addr) (w : World), (store a (.func (.func F) #[] #[])).run Tryz.prog w = stored Tryz.prog w a (.func (.func F) #[] #[]) .plain := fun F a w => run_store Tryz.prog w a _ .plain rfl
 go_enter Tryz.func72, Tryz.ntmps72
 go_wp2
 clear SF
 generalize (w.alloc (.cells #[.slice da ds.length dc, .int .i64 cop, .slice sa stores.length sc, .slice la lost.length lc, .slice ea eras.length ec, .int .i64 trim, .slice wa writers.length wc, .slice na mends.length nc, .slice ra readers.length rc', .slice ta sent.length tc, .bool torn] 47)).alloc (.cells #[.func (.func 106) #[] #[], .func (.func 107) #[] #[], .func (.func 108) #[] #[], .func (.func 109) #[] #[], .func (.func 110) #[] #[], .func (.func 111) #[] #[], .func (.func 112) #[] #[], .func (.func 113) #[] #[], .func (.func 114) #[] #[]] 162) = w1 at *
 go_loopw [8] (fun y wr => ∃ k : Nat, y = .int .i64 (k : Int) ∧ k ≤ 9 ∧ Hid (∀ j, j < k → Q j) ∧ Below w1.heap.size w1 wr) (fun y _ => 9 - (intOf y).toNat)
 case atStart => exact ⟨0, rfl, by omega, fun j h => by omega, Below.refl _ _⟩
 case round =>
  obtain ⟨k, rfl, hk, hc, hb⟩ := hrel
  have hB := bT B1 hb
  have X2 := (dU HX).below hb
  have k0 := X2 0 _ rfl
  have k1 := X2 1 _ rfl
  have k2 := X2 2 _ rfl
  have k3 := X2 3 _ rfl
  have k4 := X2 4 _ rfl
  have k5 := X2 5 _ rfl
  have k6 := X2 6 _ rfl
  have k7 := X2 7 _ rfl
  have k8 := X2 8 _ rfl
  have k9 := X2 9 _ rfl
  have k10 := X2 10 _ rfl
  clear X2
  by_cases hlt : (k : Int) < 9
  ·rcases (show k = 0 ∨ k = 1 ∨ k = 2 ∨ k = 3 ∨ k = 4 ∨ k = 5 ∨ k = 6 ∨ k = 7 ∨ k = 8 by omega) with rfl | rfl | rfl | rfl | rfl | rfl | rfl | rfl | rfl
   ·have CE := dH (dU C0 _ hB)
    have IX : ∀ w : World, (Instr.index 162 (.agg #[.func (.func 106) #[] #[], .func (.func 107) #[] #[], .func (.func 108) #[] #[], .func (.func 109) #[] #[], .func (.func 110) #[] #[], .func (.func 111) #[] #[], .func (.func 112) #[] #[], .func (.func 113) #[] #[], .func (.func 114) #[] #[]]) (.int .i64 0)).run Tryz.prog w = .ok (.func (.func 106) #[] #[]) w := fun w => by first | rfl | kernel_rfl | simp [Instr.index, go_sem]
    clear C0 C1 C3 C4 C5 C6 C7 C8 C2'
    go_wp2_with fail
    refine (dU CE).mono ?_
    rintro e w2 ⟨⟨b2, rfl, h2⟩, bl2⟩
    have hb2 := bT hb bl2
    have hB2 := bT hB bl2
    clear CE bl2 IX k0 k1 k2 k3 k4 k5 k6 k7 k8 k9 k10
    cases b2 with
    | false =>
     have R := dU NO 0 false (by omega) h2 rfl
     clear NO NX YES h2 hc
     go_wp2
     go_ret
     exact ⟨R, hB2⟩
    | true =>
     have H2 := dH (dU NX 0 (dU hc) (h2.1 rfl))
     clear NO NX h2 hc
     go_wp2
     go_roundw
     case rel => exact ⟨0 + 1, by go_num, by omega, dU H2, hb2⟩
     case measure => simp [intOf]
   ·have CE := dH (dU C1 _ hB)
    have IX : ∀ w : World, (Instr.index 162 (.agg #[.func (.func 106) #[] #[], .func (.func 107) #[] #[], .func (.func 108) #[] #[], .func (.func 109) #[] #[], .func (.func 110) #[] #[], .func (.func 111) #[] #[], .func (.func 112) #[] #[], .func (.func 113) #[] #[], .func (.func 114) #[] #[]]) (.int .i64 1)).run Tryz.prog w = .ok (.func (.func 107) #[] #[]) w := fun w => by first | rfl | kernel_rfl | simp [Instr.index, go_sem]
    clear C0 C1 C3 C4 C5 C6 C7 C8 C2'
    go_wp2_with fail
    refine (dU CE).mono ?_
    rintro e w2 ⟨⟨b2, rfl, h2⟩, bl2⟩
    have hb2 := bT hb bl2
    have hB2 := bT hB bl2
    clear CE bl2 IX k0 k1 k2 k3 k4 k5 k6 k7 k8 k9 k10
    cases b2 with
    | false =>
     have R := dU NO 1 false (by omega) h2 rfl
     clear NO NX YES h2 hc
     go_wp2
     go_ret
     exact ⟨R, hB2⟩
    | true =>
     have H2 := dH (dU NX 1 (dU hc) (h2.1 rfl))
     clear NO NX h2 hc
     go_wp2
     go_roundw
     case rel => exact ⟨1 + 1, by go_num, by omega, dU H2, hb2⟩
     case measure => simp [intOf]
   ·have CE := dH (dU C2' _ hB (dU hc 1 (by omega)))
    have IX : ∀ w : World, (Instr.index 162 (.agg #[.func (.func 106) #[] #[], .func (.func 107) #[] #[], .func (.func 108) #[] #[], .func (.func 109) #[] #[], .func (.func 110) #[] #[], .func (.func 111) #[] #[], .func (.func 112) #[] #[], .func (.func 113) #[] #[], .func (.func 114) #[] #[]]) (.int .i64 2)).run Tryz.prog w = .ok (.func (.func 108) #[] #[]) w := fun w => by first | rfl | kernel_rfl | simp [Instr.index, go_sem]
    clear C0 C1 C3 C4 C5 C6 C7 C8 C2'
    go_wp2_with fail
    refine (dU CE).mono ?_
    rintro e w2 ⟨⟨b2, rfl, h2⟩, bl2⟩
    have hb2 := bT hb bl2
    have hB2 := bT hB bl2
    clear CE bl2 IX k0 k1 k2 k3 k4 k5 k6 k7 k8 k9 k10
    cases b2 with
    | false =>
     have R := dU NO 2 false (by omega) h2 rfl
     clear NO NX YES h2 hc
     go_wp2
     go_ret
     exact ⟨R, hB2⟩
    | true =>
     have H2 := dH (dU NX 2 (dU hc) (h2.1 rfl))
     clear NO NX h2 hc
     go_wp2
     go_roundw
     case rel => exact ⟨2 + 1, by go_num, by omega, dU H2, hb2⟩
     case measure => simp [intOf]
   ·have CE := dH (dU C3 _ hB)
    have IX : ∀ w : World, (Instr.index 162 (.agg #[.func (.func 106) #[] #[], .func (.func 107) #[] #[], .func (.func 108) #[] #[], .func (.func 109) #[] #[], .func (.func 110) #[] #[], .func (.func 111) #[] #[], .func (.func 112) #[] #[], .func (.func 113) #[] #[], .func (.func 114) #[] #[]]) (.int .i64 3)).run Tryz.prog w = .ok (.func (.func 109) #[] #[]) w := fun w => by first | rfl | kernel_rfl | simp [Instr.index, go_sem]
    clear C0 C1 C3 C4 C5 C6 C7 C8 C2'
    go_wp2_with fail
    refine (dU CE).mono ?_
    rintro e w2 ⟨⟨b2, rfl, h2⟩, bl2⟩
    have hb2 := bT hb bl2
    have hB2 := bT hB bl2
    clear CE bl2 IX k0 k1 k2 k3 k4 k5 k6 k7 k8 k9 k10
    cases b2 with
    | false =>
     have R := dU NO 3 false (by omega) h2 rfl
     clear NO NX YES h2 hc
     go_wp2
     go_ret
     exact ⟨R, hB2⟩
    | true =>
     have H2 := dH (dU NX 3 (dU hc) (h2.1 rfl))
     clear NO NX h2 hc
     go_wp2
     go_roundw
     case rel => exact ⟨3 + 1, by go_num, by omega, dU H2, hb2⟩
     case measure => simp [intOf]
   ·have CE := dH (dU C4 _ hB)
    have IX : ∀ w : World, (Instr.index 162 (.agg #[.func (.func 106) #[] #[], .func (.func 107) #[] #[], .func (.func 108) #[] #[], .func (.func 109) #[] #[], .func (.func 110) #[] #[], .func (.func 111) #[] #[], .func (.func 112) #[] #[], .func (.func 113) #[] #[], .func (.func 114) #[] #[]]) (.int .i64 4)).run Tryz.prog w = .ok (.func (.func 110) #[] #[]) w := fun w => by first | rfl | kernel_rfl | simp [Instr.index, go_sem]
    clear C0 C1 C3 C4 C5 C6 C7 C8 C2'
    go_wp2_with fail
    refine (dU CE).mono ?_
    rintro e w2 ⟨⟨b2, rfl, h2⟩, bl2⟩
    have hb2 := bT hb bl2
    have hB2 := bT hB bl2
    clear CE bl2 IX k0 k1 k2 k3 k4 k5 k6 k7 k8 k9 k10
    cases b2 with
    | false =>
     have R := dU NO 4 false (by omega) h2 rfl
     clear NO NX YES h2 hc
     go_wp2
     go_ret
     exact ⟨R, hB2⟩
    | true =>
     have H2 := dH (dU NX 4 (dU hc) (h2.1 rfl))
     clear NO NX h2 hc
     go_wp2
     go_roundw
     case rel => exact ⟨4 + 1, by go_num, by omega, dU H2, hb2⟩
     case measure => simp [intOf]
   ·have CE := dH (dU C5 _ hB)
    have IX : ∀ w : World, (Instr.index 162 (.agg #[.func (.func 106) #[] #[], .func (.func 107) #[] #[], .func (.func 108) #[] #[], .func (.func 109) #[] #[], .func (.func 110) #[] #[], .func (.func 111) #[] #[], .func (.func 112) #[] #[], .func (.func 113) #[] #[], .func (.func 114) #[] #[]]) (.int .i64 5)).run Tryz.prog w = .ok (.func (.func 111) #[] #[]) w := fun w => by first | rfl | kernel_rfl | simp [Instr.index, go_sem]
    clear C0 C1 C3 C4 C5 C6 C7 C8 C2'
    go_wp2_with fail
    refine (dU CE).mono ?_
    rintro e w2 ⟨⟨b2, rfl, h2⟩, bl2⟩
    have hb2 := bT hb bl2
    have hB2 := bT hB bl2
    clear CE bl2 IX k0 k1 k2 k3 k4 k5 k6 k7 k8 k9 k10
    cases b2 with
    | false =>
     have R := dU NO 5 false (by omega) h2 rfl
     clear NO NX YES h2 hc
     go_wp2
     go_ret
     exact ⟨R, hB2⟩
    | true =>
     have H2 := dH (dU NX 5 (dU hc) (h2.1 rfl))
     clear NO NX h2 hc
     go_wp2
     go_roundw
     case rel => exact ⟨5 + 1, by go_num, by omega, dU H2, hb2⟩
     case measure => simp [intOf]
   ·have CE := dH (dU C6 _ hB)
    have IX : ∀ w : World, (Instr.index 162 (.agg #[.func (.func 106) #[] #[], .func (.func 107) #[] #[], .func (.func 108) #[] #[], .func (.func 109) #[] #[], .func (.func 110) #[] #[], .func (.func 111) #[] #[], .func (.func 112) #[] #[], .func (.func 113) #[] #[], .func (.func 114) #[] #[]]) (.int .i64 6)).run Tryz.prog w = .ok (.func (.func 112) #[] #[]) w := fun w => by first | rfl | kernel_rfl | simp [Instr.index, go_sem]
    clear C0 C1 C3 C4 C5 C6 C7 C8 C2'
    go_wp2_with fail
    refine (dU CE).mono ?_
    rintro e w2 ⟨⟨b2, rfl, h2⟩, bl2⟩
    have hb2 := bT hb bl2
    have hB2 := bT hB bl2
    clear CE bl2 IX k0 k1 k2 k3 k4 k5 k6 k7 k8 k9 k10
    cases b2 with
    | false =>
     have R := dU NO 6 false (by omega) h2 rfl
     clear NO NX YES h2 hc
     go_wp2
     go_ret
     exact ⟨R, hB2⟩
    | true =>
     have H2 := dH (dU NX 6 (dU hc) (h2.1 rfl))
     clear NO NX h2 hc
     go_wp2
     go_roundw
     case rel => exact ⟨6 + 1, by go_num, by omega, dU H2, hb2⟩
     case measure => simp [intOf]
   ·have CE := dH (dU C7 _ hB)
    have IX : ∀ w : World, (Instr.index 162 (.agg #[.func (.func 106) #[] #[], .func (.func 107) #[] #[], .func (.func 108) #[] #[], .func (.func 109) #[] #[], .func (.func 110) #[] #[], .func (.func 111) #[] #[], .func (.func 112) #[] #[], .func (.func 113) #[] #[], .func (.func 114) #[] #[]]) (.int .i64 7)).run Tryz.prog w = .ok (.func (.func 113) #[] #[]) w := fun w => by first | rfl | kernel_rfl | simp [Instr.index, go_sem]
    clear C0 C1 C3 C4 C5 C6 C7 C8 C2'
    go_wp2_with fail
    refine (dU CE).mono ?_
    rintro e w2 ⟨⟨b2, rfl, h2⟩, bl2⟩
    have hb2 := bT hb bl2
    have hB2 := bT hB bl2
    clear CE bl2 IX k0 k1 k2 k3 k4 k5 k6 k7 k8 k9 k10
    cases b2 with
    | false =>
     have R := dU NO 7 false (by omega) h2 rfl
     clear NO NX YES h2 hc
     go_wp2
     go_ret
     exact ⟨R, hB2⟩
    | true =>
     have H2 := dH (dU NX 7 (dU hc) (h2.1 rfl))
     clear NO NX h2 hc
     go_wp2
     go_roundw
     case rel => exact ⟨7 + 1, by go_num, by omega, dU H2, hb2⟩
     case measure => simp [intOf]
   ·have CE := dH (dU C8 _ hB)
    have IX : ∀ w : World, (Instr.index 162 (.agg #[.func (.func 106) #[] #[], .func (.func 107) #[] #[], .func (.func 108) #[] #[], .func (.func 109) #[] #[], .func (.func 110) #[] #[], .func (.func 111) #[] #[], .func (.func 112) #[] #[], .func (.func 113) #[] #[], .func (.func 114) #[] #[]]) (.int .i64 8)).run Tryz.prog w = .ok (.func (.func 114) #[] #[]) w := fun w => by first | rfl | kernel_rfl | simp [Instr.index, go_sem]
    clear C0 C1 C3 C4 C5 C6 C7 C8 C2'
    go_wp2_with fail
    refine (dU CE).mono ?_
    rintro e w2 ⟨⟨b2, rfl, h2⟩, bl2⟩
    have hb2 := bT hb bl2
    have hB2 := bT hB bl2
    clear CE bl2 IX k0 k1 k2 k3 k4 k5 k6 k7 k8 k9 k10
    cases b2 with
    | false =>
     have R := dU NO 8 false (by omega) h2 rfl
     clear NO NX YES h2 hc
     go_wp2
     go_ret
     exact ⟨R, hB2⟩
    | true =>
     have H2 := dH (dU NX 8 (dU hc) (h2.1 rfl))
     clear NO NX h2 hc
     go_wp2
     go_roundw
     case rel => exact ⟨8 + 1, by go_num, by omega, dU H2, hb2⟩
     case measure => simp [intOf]
  ·have R := dU YES fun j hj => dU hc j (by omega)
   clear hc NO NX C0 C1 C3 C4 C5 C6 C7 C8 C2' k0 k1 k2 k3 k4 k5 k6 k7 k8 k9 k10
   go_wp2
   go_ret
   exact ⟨R, hB⟩
theorem rrOut_le {l : List Rr} (h : sizReaderS l ≤ 1048576) {r : Rr} (hr : r ∈ l) : r.out.length ≤ 1048576 := by
 obtain ⟨i, hi, rfl⟩ := List.getElem_of_mem hr
 have h1 := sumPd_mem sizReader (ms := l) hi
 unfold sizReaderS sizD at h
 have h3 : l[i].out.length ≤ sizReader l[i] := by unfold sizReader sizEventS; omega
 omega
theorem wholeC_any (bx : Nat) (rv : Value) (l : List Rr) (w : World) (hc : w.cell? ⟨bx, 8, none⟩ = some rv) (hr : RdReaderS rv l w) (hl : ∀ r ∈ l, r.out.length ≤ 1048576) :
  Calls Tryz.prog 124 #[.pointer (some ⟨bx, 0, none⟩)] w fun e w' => RetB (∀ r ∈ l, noLoss r) e ∧ Below w.heap.size w w' := by
 have C1 := dH (everyReader_any _ l RdReader 125 #[] noLoss w (by intro args w; rfl) hr (fun h b => h.below b) fun W' hb' u x hx hu => whole1_any u x W' hu (hl x hx))
 obtain ⟨ra, rc, rfl, -⟩ := formD hr
 clear hr hl
 generalize l.length = n at *
 go_enter Tryz.func124, Tryz.ntmps124
 go_wp2_with fail
 refine (dU C1).mono ?_
 rintro e w1 ⟨⟨q, rfl, h⟩, b1⟩
 have R := dH (show RetB (∀ r ∈ l, noLoss r) (.returned (.bool q)) from ⟨q, rfl, h⟩)
 clear C1 h
 cases q
 all_goals
  go_wp2
  go_ret
  exact ⟨dU R, b1⟩
theorem RetB.to_iff {p q : Prop} {e : Ending} (h : RetB p e) (hq : p ↔ q) : RetB q e := by
 obtain ⟨b, h1, h2⟩ := h
 exact ⟨b, h1, h2.trans hq⟩
def wholeP (m : Wo) : Prop := woP m ∧ (m.torn = true ∨ ∀ r ∈ m.readers, noLoss r)
theorem names1 (w : World) (s : ByteArray) : Txs (w.alloc (.cells #[.string s] 9)) (.slice (some ⟨w.heap.size, 0, none⟩) 1 1) [s] :=
 ⟨by simp, _, 1, rfl, ⟨by simp, by omega⟩, .inr ⟨w.heap.size, 0, rfl, fun i hi => by
  have : i = 0 := by simpa using hi
  subst this
  exact Bx.new w [.string s] 9 0 _ rfl⟩⟩
theorem readerAt {W : World} {a : Option Addr} {n cap : Nat} {l : List Rr} (h : RdReaderS (.slice a n cap) l W) {k : Nat} (hk : k < l.length) : ∃ b off sa sc, a = some ⟨b, off, none⟩ ∧ W.cell? ⟨b, off + k * 3 + 2, none⟩ = some (.slice sa l[k].out.length sc) ∧ RdEventS (.slice sa l[k].out.length sc) l[k].out W := by
 obtain ⟨rs, rfl, hr, hn⟩ := h
 have hk' : k < rs.length := by simpa using hk
 obtain ⟨b, off, rfl, hc⟩ := hr.pd hk'
 obtain ⟨sv, e, hs⟩ := hn rs[k] (List.getElem_mem hk')
 rw [List.getElem_map]
 obtain ⟨sa, sc, rfl, -⟩ := formEventS hs
 refine ⟨b, off, sa, sc, rfl, ?_, hs⟩
 have ec : rs[k].c = [.int .i64 rs[k].m.epoch, .int .i64 rs[k].m.off, .slice sa rs[k].m.out.length sc] := by
  unfold Pd.val at e
  simp only [Value.agg.injEq] at e
  have := congrArg Array.toList e
  simpa using this
 exact hc k hk' 2 _ (by rw [ec]; rfl)
set_option maxHeartbeats 8000000 in
theorem specWhole_any (v : Value) (m : Wo) (w : World) (ok : okWorld m) (hs : sizWorld m ≤ 1048576) (hv : RdWorld v m w) :
  Calls Tryz.prog 18 #[v] w fun e w' => RetB (wholeP m) e ∧ Below w.heap.size w w' := by
 have CW := dH fun W (hb : Below w.heap.size w W) => specWorldOk_any v m W ok hs (hv.below hb)
 obtain ⟨da, dc, sa, sc, la, lc, ea, ec, wa, wc, na, nc, ra, rc', ta, tc, rfl, hd, hst, hlo, hre, hwr, hme, hrd, hse⟩ := partsWorld hv
 clear hd hst hlo hre hwr hme hse hs ok
 have HR := dH fun W (hb : Below w.heap.size w W) => RdReaderS.below hrd hb
 clear hrd hv
 have WP : Hid (wholeP m ↔ woP m ∧ (m.torn = true ∨ ∀ r ∈ m.readers, noLoss r)) := Iff.rfl
 have WL : Hid (woP m → m.readers.length = 2) := fun h => h.2.2.1.1
 generalize woP m = PW at *
 generalize wholeP m = PQ at *
 obtain ⟨⟨ds, cop⟩, stores, lost, ⟨eras, trim⟩, writers, mends, readers, sent, torn⟩ := m
 simp only at *
 have B0 : Below w.heap.size w (w.alloc (.cells #[.slice da ds.length dc, .int .i64 cop, .slice sa stores.length sc, .slice la lost.length lc, .slice ea eras.length ec, .int .i64 trim, .slice wa writers.length wc, .slice na mends.length nc, .slice ra readers.length rc', .slice ta sent.length tc, .bool torn] 47)) := (Below.refl _ _).alloc (Nat.le_refl _) _
 have X0 := Bx.new w [.slice da ds.length dc, .int .i64 cop, .slice sa stores.length sc, .slice la lost.length lc, .slice ea eras.length ec, .int .i64 trim, .slice wa writers.length wc, .slice na mends.length nc, .slice ra readers.length rc', .slice ta sent.length tc, .bool torn] 47
 go_enter Tryz.func18, Tryz.ntmps18
 go_wp2_with fail
 generalize w.alloc (.cells #[.slice da ds.length dc, .int .i64 cop, .slice sa stores.length sc, .slice la lost.length lc, .slice ea eras.length ec, .int .i64 trim, .slice wa writers.length wc, .slice na mends.length nc, .slice ra readers.length rc', .slice ta sent.length tc, .bool torn] 47) = w0 at *
 refine (dU CW _ B0).mono ?_
 rintro e w1 ⟨⟨q, rfl, hq⟩, b1⟩
 have B1 := dH (bT B0 b1)
 have X1 := X0.below b1
 cases q
 ·have R := dH (show RetB PQ (.returned (.bool false)) from RetB.no fun h => by have := hq.2 ((dU WP).1 h).1; cases this)
  clear hq CW b1 X0 B0 HR WP X1 WL
  go_wp2
  go_ret
  exact ⟨dU R, dU B1⟩
 have HQ := dH (hq.1 rfl)
 have HL := dH (dU WL (hq.1 rfl))
 clear hq CW b1 X0 B0 WL
 have k10 := X1 10 _ rfl
 have k8 := X1 8 _ rfl
 clear X1
 cases torn
 case true =>
  have R := dH (show RetB PQ (.returned (.bool true)) from RetB.yes ((dU WP).2 ⟨dU HQ, .inl rfl⟩))
  clear WP HQ HL HR
  go_wp2
  go_rounds 1
  go_ret
  exact ⟨dU R, dU B1⟩
 case false =>
  have RY : Hid ((∀ i (h : i < readers.length), noLoss readers[i]) → RetB PQ (.returned (.bool true))) := fun h => RetB.yes ((dU WP).2 ⟨dU HQ, .inr fun r hr => by obtain ⟨i, hi, rfl⟩ := List.getElem_of_mem hr; exact h i hi⟩)
  have RN : Hid (∀ i (h : i < readers.length) j (h' : j < readers[i].out.length), readers[i].out[j].kind = 3 → RetB PQ (.returned (.bool false))) := fun i h j h' e => RetB.no fun q => by
   rcases ((dU WP).1 q).2 with q | q
   ·cases q
   ·exact q _ (List.getElem_mem h) _ (List.getElem_mem h') e
  clear WP HQ
  go_wp2
  go_loopw [3] (fun x wr => ∃ k : Nat, x = .int .i64 (k : Int) ∧ k ≤ 2 ∧ Hid (∀ i (h : i < readers.length), i < k → noLoss readers[i]) ∧ wr = w1) (fun x _ => 2 - (intOf x).toNat)
  case atStart => exact ⟨0, rfl, by omega, fun i h h' => by omega, rfl⟩
  case round =>
   obtain ⟨k, rfl, hk, hinv, rfl⟩ := hrel
   by_cases hlt : (k : Int) < 2
   ·have hkl : k < readers.length := by rw [dU HL]; omega
    obtain ⟨b, off, ua, uc, rfl, cu, hu⟩ := readerAt (dU HR _ (dU B1)) hkl
    have HU := dH hu
    have hul := hu.1
    have hin : (k : Int) < (readers.length : Int) := by omega
    have HI : Hid ((∀ j (h : j < readers[k].out.length), ¬ readers[k].out[j].kind = 3) → ∀ i (h : i < readers.length), i < k + 1 → noLoss readers[i]) := fun hh i h hi => by
     by_cases e : i = k
     ·subst e
      intro z hz
      obtain ⟨j, hj, rfl⟩ := List.getElem_of_mem hz
      exact hh j hj
     ·exact dU hinv i h (by omega)
    have HNN : Hid (∀ j (h' : j < readers[k].out.length), readers[k].out[j].kind = 3 → RetB PQ (.returned (.bool false))) := fun j h' e => dU RN k hkl j h' e
    clear hinv hu
    generalize readers[k].out = out at *
    go_wp2
    go_loopw [4] (fun y wy => ∃ j : Nat, y = .int .i64 (j : Int) ∧ j ≤ out.length ∧ Hid (∀ i (h : i < out.length), i < j → ¬ out[i].kind = 3) ∧ wy = wr) (fun y _ => out.length - (intOf y).toNat)
    case atStart => exact ⟨0, rfl, by omega, fun i h h' => by omega, rfl⟩
    case round =>
     obtain ⟨j, rfl, hj, hjn, rfl⟩ := hrel
     by_cases hlj : (j : Int) < (out.length : Int)
     ·have hjl : j < out.length := by omega
      obtain ⟨eb, eo, rfl, he⟩ := (dU HU).atEv hjl
      obtain ⟨c0, c1, c2⟩ := he j hjl
      by_cases h3 : out[j].kind = 3
      ·have R := dH (dU HNN j hjl h3)
       rw [h3] at c0
       clear HNN HI RY RN hjn he HU
       go_wp2
       go_ret
       exact ⟨dU R, dU B1⟩
      ·have H2 : Hid (∀ i (h : i < out.length), i < j + 1 → ¬ out[i].kind = 3) := fun i h hi => by
        by_cases e : i = j
        ·subst e; exact h3
        ·exact dU hjn i h (by omega)
       have hb3 : (out[j].kind == 3) = false := by simpa using h3
       generalize out[j].kind = z at *
       clear he hjn
       go_wp2
       go_roundw
       case rel => exact ⟨j + 1, by go_num, by omega, H2, by first | trivial | rfl⟩
       case measure => simp [intOf]; omega
     ·have H3 := dH (dU HI fun i h => dU hjn i h (by omega))
      clear hjn HI HNN
      go_wp2
      go_roundw
      case rel => exact ⟨k + 1, by go_num, by omega, H3, by first | trivial | rfl⟩
      case measure => simp [intOf]; omega
   ·have R := dH (dU RY fun i h => dU hinv i h (by rw [dU HL] at h; omega))
    clear RY RN hinv HR HL
    go_wp2
    go_ret
    exact ⟨dU R, dU B1⟩
def JBox (W : World) (bx : Nat) (m : Wo) : Prop := W.cell? ⟨bx, 5, none⟩ = some (.int .i64 m.reg.trim) ∧ ∃ rv tv, W.cell? ⟨bx, 8, none⟩ = some rv ∧ W.cell? ⟨bx, 9, none⟩ = some tv ∧ RdReaderS rv m.readers W ∧ RdSentS tv m.sent W
def Judge1 (w : World) (m : Wo) (z : ByteArray) (P : Prop) : Prop := ∀ W bx b mb, Below w.heap.size w W → W.cell? ⟨mb, 0, none⟩ = some (.map (some b)) → W.heap[b]? = some (.map (judgesE bx m.torn) 5) → JBox W bx m → Calls Tryz.prog 75 (#[.string z] ++ #[.pointer (some ⟨mb, 0, none⟩)]) W fun e w' => RetB P e ∧ Below W.heap.size W w'
set_option maxHeartbeats 8000000 in
theorem judgedG_any (v nv' : Value) (m : Wo) (ns : List ByteArray) (P : ByteArray → Prop) (w : World) (ok : okWorld m) (hs : sizWorld m ≤ 1048576) (hv : RdWorld v m w) (hn : Txs w nv' ns) (hJ : woP m → ∀ z ∈ ns, Judge1 w m z (P z)) :
  Calls Tryz.prog 42 #[v, nv'] w fun e w' => RetB (woP m ∧ ∀ z ∈ ns, P z) e ∧ Below w.heap.size w w' := by
 have CW := dH fun W (hb : Below w.heap.size w W) => implWorldOk_any v m W ok hs (hv.below hb)
 obtain ⟨da, dc, sa, sc, la, lc, ea, ec, wa, wc, na, nc, ra, rc', ta, tc, rfl, hd, hst, hlo, hre, hwr, hme, hrd, hse⟩ := partsWorld hv
 clear hd hst hlo hre hwr hme hs ok
 obtain ⟨na', nc', rfl⟩ : ∃ a c, nv' = .slice a ns.length c := by obtain ⟨-, a, c, e, -⟩ := hn; exact ⟨a, c, e⟩
 have HN := dH fun W (hb : Below w.heap.size w W) => hn.below hb
 have HR := dH fun W (hb : Below w.heap.size w W) => RdReaderS.below hrd hb
 have HS := dH fun W (hb : Below w.heap.size w W) => RdSentS.below hse hb
 have HJ : Hid (woP m → ∀ z ∈ ns, ∀ W bx b mb, Below w.heap.size w W → W.cell? ⟨mb, 0, none⟩ = some (.map (some b)) → W.heap[b]? = some (.map (judgesE bx m.torn) 5) → (W.cell? ⟨bx, 5, none⟩ = some (.int .i64 m.reg.trim) ∧ ∃ rv tv, W.cell? ⟨bx, 8, none⟩ = some rv ∧ W.cell? ⟨bx, 9, none⟩ = some tv ∧ RdReaderS rv m.readers W ∧ RdSentS tv m.sent W) → Calls Tryz.prog 75 (#[.string z] ++ #[.pointer (some ⟨mb, 0, none⟩)]) W fun e w' => RetB (P z) e ∧ Below W.heap.size W w') := hJ
 clear hn hrd hse hv hJ
 have WP : Hid ((woP m ∧ ∀ z ∈ ns, P z) ↔ woP m ∧ ∀ z ∈ ns, P z) := Iff.rfl
 generalize hPQ : (woP m ∧ ∀ z ∈ ns, P z) = PQ at *
 have WP2 : Hid (PQ ↔ woP m ∧ ∀ z ∈ ns, P z) := by rw [← hPQ]; exact Iff.rfl
 clear WP hPQ
 generalize woP m = PW at *
 obtain ⟨⟨ds, cop⟩, stores, lost, ⟨eras, trim⟩, writers, mends, readers, sent, torn⟩ := m
 simp only at *
 generalize ns.length = nl at *
 have B0 : Below w.heap.size w (w.alloc (.cells #[.slice da ds.length dc, .int .i64 cop, .slice sa stores.length sc, .slice la lost.length lc, .slice ea eras.length ec, .int .i64 trim, .slice wa writers.length wc, .slice na mends.length nc, .slice ra readers.length rc', .slice ta sent.length tc, .bool torn] 47)) := (Below.refl _ _).alloc (Nat.le_refl _) _
 have X0 := Bx.new w [.slice da ds.length dc, .int .i64 cop, .slice sa stores.length sc, .slice la lost.length lc, .slice ea eras.length ec, .int .i64 trim, .slice wa writers.length wc, .slice na mends.length nc, .slice ra readers.length rc', .slice ta sent.length tc, .bool torn] 47
 go_enter Tryz.func42, Tryz.ntmps42
 go_wp2_with fail
 generalize w.alloc (.cells #[.slice da ds.length dc, .int .i64 cop, .slice sa stores.length sc, .slice la lost.length lc, .slice ea eras.length ec, .int .i64 trim, .slice wa writers.length wc, .slice na mends.length nc, .slice ra readers.length rc', .slice ta sent.length tc, .bool torn] 47) = w0 at *
 refine (dU CW _ B0).mono ?_
 rintro e w1 ⟨⟨q, rfl, hq⟩, b1⟩
 have B1 := bT B0 b1
 have X1 := X0.below b1
 replace B1 := dH B1
 cases q
 ·have R := dH (show RetB PQ (.returned (.bool false)) from RetB.no fun h => by have := hq.2 ((dU WP2).1 h).1; cases this)
  clear hq CW b1 X0 B0 HN HR HS HJ WP2 X1
  go_wp2
  go_ret
  exact ⟨dU R, dU B1⟩
 have HQ := dH (hq.1 rfl)
 replace HJ := dH (dU HJ (hq.1 rfl))
 clear hq CW b1 X0 B0
 have k0 := X1 0 _ rfl
 have k1 := X1 1 _ rfl
 have k2 := X1 2 _ rfl
 have k3 := X1 3 _ rfl
 have k4 := X1 4 _ rfl
 have k5 := X1 5 _ rfl
 have k6 := X1 6 _ rfl
 have k7 := X1 7 _ rfl
 have k8 := X1 8 _ rfl
 have k9 := X1 9 _ rfl
 have k10 := X1 10 _ rfl
 have CJ : Hid (Calls Tryz.prog 73 #[.agg #[.slice da ds.length dc, .int .i64 cop, .slice sa stores.length sc, .slice la lost.length lc, .slice ea eras.length ec, .int .i64 trim, .slice wa writers.length wc, .slice na mends.length nc, .slice ra readers.length rc', .slice ta sent.length tc, .bool torn]] w1 fun e w' => (∃ b, e = .returned (.map (some b)) ∧ w'.heap[b]? = some (.map (judgesE w1.heap.size torn) 5) ∧ Bx w' w1.heap.size [.slice da ds.length dc, .int .i64 cop, .slice sa stores.length sc, .slice la lost.length lc, .slice ea eras.length ec, .int .i64 trim, .slice wa writers.length wc, .slice na mends.length nc, .slice ra readers.length rc', .slice ta sent.length tc, .bool torn]) ∧ Below w1.heap.size w1 w') := by
  cases torn
  ·exact implJudges_f _ _ _ _ _ _ _ _ cop trim w1
  ·exact implJudges_t _ _ _ _ _ _ _ _ cop trim w1
 go_wp2_with fail
 refine (dU CJ).mono ?_
 rintro e w2 ⟨⟨b, rfl, hm, hX⟩, b2⟩
 have B2 := bT (dU B1) b2
 have bM : Below w2.heap.size w2 (w2.alloc (.cells #[.map (some b)] 124)) := (Below.refl _ _).alloc (Nat.le_refl _) _
 have cM := Bx.new w2 [.map (some b)] 124 0 _ rfl
 have B3 := bT B2 bM
 have hbl : b < w2.heap.size := (Array.getElem?_eq_some_iff.1 hm).1
 have hXM := hX.below bM
 have CE := dH (everyTxt_any _ ns 75 #[.pointer (some ⟨w2.heap.size, 0, none⟩)] P _ (by intro args w; rfl) (dU HN _ B3) fun W hW z hz => by
  have hXW := hXM.below hW
  exact dU HJ z hz W w1.heap.size b w2.heap.size (bT B3 hW) ((hW.cell (p := ⟨w2.heap.size, 0, none⟩) (dCell_lt cM)).trans cM) (((hW.block b (by simp; omega)).trans (bM.block b hbl)).trans hm) ⟨hXW 5 _ rfl, _, _, hXW 8 _ rfl, hXW 9 _ rfl, dU HR W (bT B3 hW), dU HS W (bT B3 hW)⟩)
 clear hm hX b2 bM cM hbl hXM HN HR HS HJ B2 k0 k1 k2 k3 k4 k5 k6 k7 k8 k9 k10 X1 CJ
 have B3' := dH B3
 clear B3
 go_wp2_with fail
 refine (dU CE).mono ?_
 rintro e w3 ⟨⟨q, rfl, h⟩, b3⟩
 have R := dH (show RetB PQ (.returned (.bool q)) from ⟨q, rfl, h.trans ⟨fun h => (dU WP2).2 ⟨dU HQ, h⟩, fun h => ((dU WP2).1 h).2⟩⟩)
 have B4 := bT (dU B3') b3
 clear CE h b3 B3' WP2 HQ
 cases q
 all_goals
  go_wp2
  go_ret
  exact ⟨dU R, B4⟩
end Go.Proofs.YtekgkjomdpjkbaaGreat
