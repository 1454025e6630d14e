/- The walk of the law FnStoreBytes. -/
import Derived.Test.YtognmmmplmideaaSbB
import Derived.Test.YtognmmmplmideaaImFn
import Derived.Test.YtognmmmplmideaaImFo
import Derived.Test.YtognmmmplmideaaStR
import Derived.Test.YtognmmmplmideaaBigB
import Derived.Test.YtognmmmplmideaaBuA
import Derived.Test.YtognmmmplmideaaAtB
namespace Go.Proofs.Ytognmmmplmideaa
open Go.ChangeShapes Go.WideShapes Go.ChangeAt Go.RowKit
set_option linter.unusedVariables false
set_option linter.unusedSimpArgs false

theorem conv_bsS {w : World} {v : Value} {bs : List UInt8} (h : Bs w v bs) (hne : 0 < bs.length) : (convert 22 9 v).run Try.prog w = .ok (.string ⟨bs.toArray⟩) w := by
  obtain ⟨h0, a, cap, rfl, hcap, h⟩ := h
  obtain ⟨b, off, rfl, hc⟩ := or_of_lt h hne
  have := conv_cut (w := w) (b := b) (off := off) (p := 0) (n := bs.length) (cap := cap) hc (by omega)
  simpa using this
theorem pack_true {s : St} {M : List UInt8 × Bool} (h : packM s = M) (hb : M.2 = true) : packP s ∧ M.1 = packS s := by
  by_cases hp : packP s
  · rw [packM_yes hp] at h; subst h; exact ⟨hp, rfl⟩
  · rw [packM_no hp] at h; subst h; cases hb
set_option maxHeartbeats 8000000 in
set_option maxRecDepth 100000 in
theorem walkFnStoreBytes (a0 : Option Addr) (len0 cap0 : Nat) (z0 : List Int) (w : World) (w0 : IsRow .u8 w a0 len0 cap0 z0) :
    Calls Try.prog 3 #[.slice a0 len0 cap0] w fun e w' => e = .returned (.bool true) ∧ Below w.heap.size w w' := by
  have hr := row8_of w0
  have hlen := hr.1
  clear w0
  by_cases hbig : 1048576 < len0
  · have CB := dHide (big_yes a0 len0 cap0 hbig hlen)
    go_enter Try.func3, Try.ntmps3
    go_wp2_with fail
    refine (dUnhide CB _).mono ?_
    rintro e w1 ⟨rfl, rfl⟩
    go_wp2
    go_ret
    exact ⟨rfl, Below.refl _ _⟩
  have CB := dHide (big_no a0 len0 cap0 hbig)
  have CD := dHide (drawStorePack_any a0 len0 cap0 w hr)
  have CR := dHide fun W (hb : Below w.heap.size w W) => drawStoreRead_any a0 len0 cap0 W (hr.below hb)
  have ba : ∀ (w : World) o, Below w.heap.size w (w.alloc o) := fun w o => (Below.refl _ _).alloc (Nat.le_refl _) o
  clear hbig hr
  go_enter Try.func3, Try.ntmps3
  go_wp2_with fail
  refine (dUnhide CB _).mono ?_
  rintro e w1 ⟨rfl, rfl⟩
  clear CB
  go_wp2_with fail
  refine (dUnhide CD).mono ?_
  rintro e w1 ⟨⟨u, rfl, s, O1, hf, hkl, hll⟩, B1⟩
  obtain ⟨ka, kc, la, lc, rfl⟩ := O1.shape
  clear CD
  have bA := ba w1 (.cells #[.slice ka s.kept.length kc, .slice la s.late.length lc, .int .i64 s.lock] 26)
  have X2 := Bx.new w1 [.slice ka s.kept.length kc, .slice la s.late.length lc, .int .i64 s.lock] 26
  have O2 := O1.below bA
  have B2 := belowThen B1 bA
  clear O1 B1 bA
  go_wp2_with fail
  generalize hbx : w1.heap.size = bx at *
  generalize w1.alloc (.cells #[.slice ka s.kept.length kc, .slice la s.late.length lc, .int .i64 s.lock] 26) = w2 at *
  clear hbx
  have C1 := dHide (implPack_any _ s w2 O2.rs hf)
  have CS := dHide fun W (hb : Below w2.heap.size w2 W) => specStorePack_any _ s W (O2.below hb).rs hf
  have PT : Hid ((packM s).2 = true → packP s ∧ (packM s).1 = packS s) := fun h => pack_true rfl h
  generalize packM s = M at *
  obtain ⟨PB, pb⟩ := M
  refine (dUnhide C1).mono ?_
  rintro e w3 ⟨⟨u3, rfl, Q3⟩, b3⟩
  have X3 := X2.below b3
  have O3 := O2.below b3
  have B3 := belowThen B2 b3
  have CS3 := dHide (dUnhide CS _ b3)
  clear C1 CS X2 O2 B2 b3
  have y0 := X3 0 _ rfl
  have y1 := X3 1 _ rfl
  have y2 := X3 2 _ rfl
  go_wp2_with fail
  refine (dUnhide CS3).mono ?_
  rintro e w4 ⟨⟨u4, rfl, Q4⟩, b4⟩
  have X4 := X3.below b4
  have O4 := O3.below b4
  have B4 := belowThen B3 b4
  have Q34 := dHide (Q3.below b4)
  clear CS3 X3 O3 B3 y0 y1 y2 Q3 Q4 b4
  simp only at *
  have y0 := X4 0 _ rfl
  have y1 := X4 1 _ rfl
  have y2 := X4 2 _ rfl
  cases pb
  · have hbS := B4
    clear PT Q34 X4 O4 B4
    go_wp2_with fail
    refine (dUnhide CR _ hbS).mono ?_
    rintro e w8 ⟨⟨v8, rfl, bs, q8, hl8⟩, b8⟩
    have B8 := belowThen hbS b8
    have CI := dHide (implStoreRead_any v8 bs w8 q8 (by omega))
    have CT := dHide fun W (hb : Below w8.heap.size w8 W) => specStoreRead_any v8 bs W (q8.below hb) (by omega)
    have PR : Hid ((readM bs).2 = true → packP (readM bs).1 ∧ packS (readM bs).1 = bs) := fun h => pack_read (Prod.ext rfl h)
    have PF : Hid ((readM bs).2 = false → (readM bs).1 = zeroSt) := fun h => read_bad (bs := bs) (Prod.ext rfl h)
    generalize readM bs = RM at *
    obtain ⟨m, mb⟩ := RM
    clear hbS b8 CR
    go_wp2_with fail
    refine (dUnhide CI).mono ?_
    rintro e w9 ⟨⟨u9, rfl, O9⟩, b9⟩
    obtain ⟨k9, c9, l9, d9, rfl⟩ := O9.shape
    simp only at *
    have bC := ba w9 (.cells #[.slice k9 m.kept.length c9, .slice l9 m.late.length d9, .int .i64 m.lock] 26)
    have b10 := belowThen b9 bC
    have N10 := Bx.new w9 [.slice k9 m.kept.length c9, .slice l9 m.late.length d9, .int .i64 m.lock] 26
    have O10 := O9.below bC
    have q10 := q8.below b10
    have B10 := belowThen B8 b10
    have CT10 := dHide (dUnhide CT _ b10)
    clear CI CT O9 q8 B8 b9 b10 bC
    go_wp2_with fail
    generalize hb9 : w9.heap.size = x9 at *
    generalize w9.alloc (.cells #[.slice k9 m.kept.length c9, .slice l9 m.late.length d9, .int .i64 m.lock] 26) = w10 at *
    clear hb9
    refine (dUnhide CT10).mono ?_
    rintro e w11 ⟨⟨u11, rfl, O11⟩, b11⟩
    obtain ⟨k11, c11, l11, d11, rfl⟩ := O11.shape
    have bD := ba w11 (.cells #[.slice k11 m.kept.length c11, .slice l11 m.late.length d11, .int .i64 m.lock] 26)
    have b12 := belowThen b11 bD
    have N12 := N10.below b12
    have O12 := O10.below b12
    have q12 := q10.below b12
    have B12 := belowThen B10 b12
    clear CT10 N10 O10 q10 B10 b11 b12 bD O11
    have n0 := N12 0 _ rfl
    have n1 := N12 1 _ rfl
    have n2 := N12 2 _ rfl
    cases mb
    · obtain rfl := dUnhide PF rfl
      have CP := dHide (implPack_any _ zeroSt _ O12.rs ⟨(fun e he => by cases he), (fun e he => by cases he), by simp [zeroSt], by simp [zeroSt]⟩)
      have ez : zeroSt.kept.length = 0 := rfl
      have ez2 : zeroSt.late.length = 0 := rfl
      have ez3 : zeroSt.lock = 0 := rfl
      clear PF PR O12 q12
      simp only [ez, ez2, ez3] at *
      go_wp2_with fail
      generalize w11.alloc (.cells #[.slice k11 0 c11, .slice l11 0 d11, .int .i64 0] 26) = w12 at *
      refine (dUnhide CP).mono ?_
      rintro e w13 ⟨⟨u13, rfl, Q13⟩, b13⟩
      have B13 := belowThen B12 b13
      have N13 := N12.below b13
      clear n0 n1 n2 CP N12 B12 b13 Q13
      have n0 := N13 0 _ rfl
      go_wp2
      go_ret
      exact ⟨rfl, B13⟩
    · obtain ⟨hP, hS⟩ := dUnhide PR rfl
      have hpos := (packS_len hP.1).2
      rw [hS] at hpos
      have CP := dHide (implPack_any _ m _ O12.rs (stP_fit hP.1))
      rw [packM_yes hP, hS] at CP
      clear PF PR O12 hP hS
      go_wp2_with fail
      generalize w11.alloc (.cells #[.slice k11 m.kept.length c11, .slice l11 m.late.length d11, .int .i64 m.lock] 26) = w12 at *
      refine (dUnhide CP).mono ?_
      rintro e w13 ⟨⟨u13, rfl, Q13⟩, b13⟩
      try simp only at Q13
      have B13 := belowThen B12 b13
      have N13 := N12.below b13
      have q13 := q12.below b13
      have cA := conv_bsS Q13.bs hpos
      have cB := conv_bsS q13 hpos
      clear n0 n1 n2 CP N12 B12 b13 q12 q13 Q13
      have n0 := N13 0 _ rfl
      go_wp2
      go_ret
      exact ⟨rfl, B13⟩
  · obtain ⟨hP, rfl⟩ := dUnhide PT rfl
    have hps := packS_len hP.1
    have C5 := dHide (implStoreRead_any u3 (packS s) w4 (dUnhide Q34).bs (by omega))
    rw [read_pack hP] at C5
    clear PT Q34 hP hps
    go_wp2_with fail
    refine (dUnhide C5).mono ?_
    rintro e w5 ⟨⟨u5, rfl, O5⟩, b5⟩
    obtain ⟨k5, c5, l5, d5, rfl⟩ := O5.shape
    try simp only at O5
    have bB := ba w5 (.cells #[.slice k5 s.kept.length c5, .slice l5 s.late.length d5, .int .i64 s.lock] 26)
    have b6 := belowThen b5 bB
    have X6 := X4.below b6
    have N6 := Bx.new w5 [.slice k5 s.kept.length c5, .slice l5 s.late.length d5, .int .i64 s.lock] 26
    have O6 := O5.below bB
    have P6 := O4.below b6
    have B6 := belowThen B4 b6
    clear C5 y0 y1 y2 O5 X4 O4 B4 b5 bB
    have y0 := X6 0 _ rfl
    have y2 := X6 2 _ rfl
    have n0 := N6 0 _ rfl
    have n2 := N6 2 _ rfl
    have RU : Rw 4 Ent.cl (w5.alloc (.cells #[.slice k5 s.kept.length c5, .slice l5 s.late.length d5, .int .i64 s.lock] 26)) (.slice k5 s.kept.length c5) s.kept := by
      obtain ⟨kv, lv, e, h1, h2⟩ := O6.rs
      cases e
      exact h1
    have RV : Rw 4 Ent.cl (w5.alloc (.cells #[.slice k5 s.kept.length c5, .slice l5 s.late.length d5, .int .i64 s.lock] 26)) (.slice ka s.kept.length kc) s.kept := by
      obtain ⟨kv, lv, e, h1, h2⟩ := P6.rs
      cases e
      exact h1
    have CQ := dHide (sameEntries_yes _ _ s.kept _ RU RV)
    clear RU RV O6 P6 b6
    go_wp2_with fail
    generalize w5.alloc (.cells #[.slice k5 s.kept.length c5, .slice l5 s.late.length d5, .int .i64 s.lock] 26) = w6 at *
    refine (dUnhide CQ).mono ?_
    rintro e w7 ⟨rfl, b7⟩
    have hbS := belowThen B6 b7
    clear CQ b7 B6 X6 N6 y0 y2 n0 n2
    go_wp2_with fail
    refine (dUnhide CR _ hbS).mono ?_
    rintro e w8 ⟨⟨v8, rfl, bs, q8, hl8⟩, b8⟩
    have B8 := belowThen hbS b8
    have CI := dHide (implStoreRead_any v8 bs w8 q8 (by omega))
    have CT := dHide fun W (hb : Below w8.heap.size w8 W) => specStoreRead_any v8 bs W (q8.below hb) (by omega)
    have PR : Hid ((readM bs).2 = true → packP (readM bs).1 ∧ packS (readM bs).1 = bs) := fun h => pack_read (Prod.ext rfl h)
    have PF : Hid ((readM bs).2 = false → (readM bs).1 = zeroSt) := fun h => read_bad (bs := bs) (Prod.ext rfl h)
    generalize readM bs = RM at *
    obtain ⟨m, mb⟩ := RM
    clear hbS b8 CR
    go_wp2_with fail
    refine (dUnhide CI).mono ?_
    rintro e w9 ⟨⟨u9, rfl, O9⟩, b9⟩
    obtain ⟨k9, c9, l9, d9, rfl⟩ := O9.shape
    simp only at *
    have bC := ba w9 (.cells #[.slice k9 m.kept.length c9, .slice l9 m.late.length d9, .int .i64 m.lock] 26)
    have b10 := belowThen b9 bC
    have N10 := Bx.new w9 [.slice k9 m.kept.length c9, .slice l9 m.late.length d9, .int .i64 m.lock] 26
    have O10 := O9.below bC
    have q10 := q8.below b10
    have B10 := belowThen B8 b10
    have CT10 := dHide (dUnhide CT _ b10)
    clear CI CT O9 q8 B8 b9 b10 bC
    go_wp2_with fail
    generalize hb9 : w9.heap.size = x9 at *
    generalize w9.alloc (.cells #[.slice k9 m.kept.length c9, .slice l9 m.late.length d9, .int .i64 m.lock] 26) = w10 at *
    clear hb9
    refine (dUnhide CT10).mono ?_
    rintro e w11 ⟨⟨u11, rfl, O11⟩, b11⟩
    obtain ⟨k11, c11, l11, d11, rfl⟩ := O11.shape
    have bD := ba w11 (.cells #[.slice k11 m.kept.length c11, .slice l11 m.late.length d11, .int .i64 m.lock] 26)
    have b12 := belowThen b11 bD
    have N12 := N10.below b12
    have O12 := O10.below b12
    have q12 := q10.below b12
    have B12 := belowThen B10 b12
    clear CT10 N10 O10 q10 B10 b11 b12 bD O11
    have n0 := N12 0 _ rfl
    have n1 := N12 1 _ rfl
    have n2 := N12 2 _ rfl
    cases mb
    · obtain rfl := dUnhide PF rfl
      have CP := dHide (implPack_any _ zeroSt _ O12.rs ⟨(fun e he => by cases he), (fun e he => by cases he), by simp [zeroSt], by simp [zeroSt]⟩)
      have ez : zeroSt.kept.length = 0 := rfl
      have ez2 : zeroSt.late.length = 0 := rfl
      have ez3 : zeroSt.lock = 0 := rfl
      clear PF PR O12 q12
      simp only [ez, ez2, ez3] at *
      go_wp2_with fail
      generalize w11.alloc (.cells #[.slice k11 0 c11, .slice l11 0 d11, .int .i64 0] 26) = w12 at *
      refine (dUnhide CP).mono ?_
      rintro e w13 ⟨⟨u13, rfl, Q13⟩, b13⟩
      have B13 := belowThen B12 b13
      have N13 := N12.below b13
      clear n0 n1 n2 CP N12 B12 b13 Q13
      have n0 := N13 0 _ rfl
      go_wp2
      go_ret
      exact ⟨rfl, B13⟩
    · obtain ⟨hP, hS⟩ := dUnhide PR rfl
      have hpos := (packS_len hP.1).2
      rw [hS] at hpos
      have CP := dHide (implPack_any _ m _ O12.rs (stP_fit hP.1))
      rw [packM_yes hP, hS] at CP
      clear PF PR O12 hP hS
      go_wp2_with fail
      generalize w11.alloc (.cells #[.slice k11 m.kept.length c11, .slice l11 m.late.length d11, .int .i64 m.lock] 26) = w12 at *
      refine (dUnhide CP).mono ?_
      rintro e w13 ⟨⟨u13, rfl, Q13⟩, b13⟩
      try simp only at Q13
      have B13 := belowThen B12 b13
      have N13 := N12.below b13
      have q13 := q12.below b13
      have cA := conv_bsS Q13.bs hpos
      have cB := conv_bsS q13 hpos
      clear n0 n1 n2 CP N12 B12 b13 q12 q13 Q13
      have n0 := N13 0 _ rfl
      go_wp2
      go_ret
      exact ⟨rfl, B13⟩
end Go.Proofs.Ytognmmmplmideaa
