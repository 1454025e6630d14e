/- The walk of the law FnStored (printed by tools/mkl6s.py). -/
import Derived.Test.YtejmfohkobhidaaDsC
import Derived.Test.YtejmfohkobhidaaCrF
import Derived.Test.YtejmfohkobhidaaImFj
import Derived.Test.YtejmfohkobhidaaImFl
import Derived.Test.YtejmfohkobhidaaImFm
import Derived.Test.YtejmfohkobhidaaBigB
import Derived.Test.YtejmfohkobhidaaGaA
import Derived.BigQuiet
import Derived.Deep.DeepCutAuto
namespace Go.Proofs.Ytejmfohkobhidaa
open Go.ChangeShapes Go.WideShapes Go.ChangeAt Go.RowKit
set_option linter.unusedVariables false
set_option linter.unusedSimpArgs false

theorem rs_keptS {w : World} {kv lv c : Value} {s : St} (h : Rs w (.agg #[kv, lv, c]) s) : Rw 4 Ent.cl w kv s.kept := by
  obtain ⟨kv', lv', e, h1, h2⟩ := h
  simp only [Value.agg.injEq] at e
  have e' := congrArg Array.toList e
  simp only [List.cons.injEq] at e'
  rw [e'.1]
  exact h1
theorem findT_ex (G : Option Ent) : ∃ (ge : Ent) (gb : Bool), findT G = .tuple #[.agg #[.int .i64 ge.pl, .int .i64 ge.wave, .bool ge.hole, .string ge.data], .bool gb] ∧ ∀ o, G = some o → gb = true ∧ ge = o := by
  cases G with
  | none => exact ⟨noEnt, false, rfl, fun o h => by cases h⟩
  | some e => exact ⟨e, true, rfl, fun o h => by cases h; exact ⟨rfl, rfl⟩⟩
set_option maxHeartbeats 8000000 in
set_option maxRecDepth 100000 in
theorem walkFnStored (a0 : Option Addr) (len0 cap0 : Nat) (z0 : List Int) (w : World) (w0 : IsRow .u8 w a0 len0 cap0 z0) :
    Calls Try.prog 3 #[.slice a0 len0 cap0] w fun e w' => e = .returned (.bool true) ∧ Below w.heap.size w w' := by
  have hr := row8_of w0
  have hlen := hr.1
  clear w0
  by_cases hbig : 1048576 < len0
  · have CB := dHide (big_yes a0 len0 cap0 hbig hlen)
    go_enter Try.func3, Try.ntmps3
    go_wp2_with fail
    refine (dUnhide CB _).mono ?_
    rintro e w1 ⟨rfl, rfl⟩
    go_wp2
    go_ret
    exact ⟨rfl, Below.refl _ _⟩
  have CB := dHide (big_no a0 len0 cap0 hbig)
  have CD := dHide (drawStorePut_any a0 len0 cap0 w hr)
  have ba : ∀ (w : World) o, Below w.heap.size w (w.alloc o) := fun w o => (Below.refl _ _).alloc (Nat.le_refl _) o
  clear hbig hr
  go_enter Try.func3, Try.ntmps3
  go_wp2_with fail
  refine (dUnhide CB _).mono ?_
  rintro e w1 ⟨rfl, rfl⟩
  clear CB
  go_wp2_with fail
  refine (dUnhide CD).mono ?_
  rintro r w1 ⟨⟨u, ⟨p0, p1, p2, p3⟩, hE, rfl, s, O1, hf, hkl, hll⟩, B1⟩
  obtain ⟨ka, kc, la, lc, rfl⟩ := O1.shape
  unfold Ent.val
  clear CD
  have bA := ba w1 (.cells #[.slice ka s.kept.length kc, .slice la s.late.length lc, .int .i64 s.lock] 26)
  have bB := ba (w1.alloc (.cells #[.slice ka s.kept.length kc, .slice la s.late.length lc, .int .i64 s.lock] 26)) (.cells #[.int .i64 p0, .int .i64 p1, .bool p2, .string p3] 28)
  have e1 : (w1.alloc (.cells #[.slice ka s.kept.length kc, .slice la s.late.length lc, .int .i64 s.lock] 26)).heap.size = w1.heap.size + 1 := by simp
  have X2 := (Bx.new w1 [.slice ka s.kept.length kc, .slice la s.late.length lc, .int .i64 s.lock] 26).below bB
  have Y2 := Bx.new (w1.alloc (.cells #[.slice ka s.kept.length kc, .slice la s.late.length lc, .int .i64 s.lock] 26)) [.int .i64 p0, .int .i64 p1, .bool p2, .string p3] 28
  rw [e1] at Y2
  have bAB := belowThen bA bB
  have O2 := O1.below bAB
  have B2 := belowThen B1 bAB
  clear O1 B1 bA bB bAB e1
  go_wp2_with fail
  generalize hbx : w1.heap.size = bx at *
  generalize (w1.alloc (.cells #[.slice ka s.kept.length kc, .slice la s.late.length lc, .int .i64 s.lock] 26)).alloc (.cells #[.int .i64 p0, .int .i64 p1, .bool p2, .string p3] 28) = w2 at *
  clear hbx
  have TF : Hid (∀ m, putM s ⟨p0, p1, p2, p3⟩ = (m, false) → m = s ∨ (¬ stP s ∧ m = zeroSt)) := fun m h => put_false h
  have TT : Hid (∀ m, putM s ⟨p0, p1, p2, p3⟩ = (m, true) → stP m) := fun m h => (put_true h).2.2
  have TS : Hid (∀ m n, putM s ⟨p0, p1, p2, p3⟩ = (m, true) → crashM m 1048575 = (n, true) → stP n ∧ n.late = [] ∧ (∀ x ∈ s.kept, ∃ o, getM n x.pl = some o ∧ x.wave ≤ o.wave) ∧ ∃ o, getM n p0 = some o ∧ p1 ≤ o.wave) := fun m n h h2 => sync_true h h2
  have TN : Hid (∀ m n, putM s ⟨p0, p1, p2, p3⟩ = (m, true) → crashM m 1048575 = (n, false) → 200 < s.kept.length + m.late.length) := fun m n h h2 => sync_false h h2
  have C1 := dHide (implPut_any _ s ⟨p0, p1, p2, p3⟩ w2 O2.rs hf hE.1)
  have CS := dHide fun W (hb : Below w2.heap.size w2 W) => specPut_any _ s ⟨p0, p1, p2, p3⟩ W (O2.below hb).rs hf hE.1
  have CO := dHide fun W (hb : Below w2.heap.size w2 W) => specStoreOk_any _ s W (O2.below hb).rs hf
  have HSR := dHide fun W (hb : Below w2.heap.size w2 W) => rs_keptS (O2.below hb).rs
  unfold Ent.val at C1 CS
  simp only at C1 CS
  generalize hM : putM s ⟨p0, p1, p2, p3⟩ = M at *
  clear hM hE
  obtain ⟨m, mb⟩ := M
  have y0 := X2 0 _ rfl
  have y1 := X2 1 _ rfl
  have y2 := X2 2 _ rfl
  have e0 := Y2 0 _ rfl
  have e1 := Y2 1 _ rfl
  have e2 := Y2 2 _ rfl
  have e3 := Y2 3 _ rfl
  refine (dUnhide C1).mono ?_
  rintro r w3 ⟨⟨u3, rfl, O3⟩, b3⟩
  obtain ⟨k3, c3, l3, d3, rfl⟩ := O3.shape
  try simp only at O3
  have bN := ba w3 (.cells #[.slice k3 m.kept.length c3, .slice l3 m.late.length d3, .int .i64 m.lock] 26)
  have b4 := belowThen b3 bN
  have X4 := X2.below b4
  have Y4 := Y2.below b4
  have N4 := Bx.new w3 [.slice k3 m.kept.length c3, .slice l3 m.late.length d3, .int .i64 m.lock] 26
  have O4 := O3.below bN
  have CS4 := dHide (dUnhide CS _ b4)
  have B4 := belowThen B2 b4
  have b24 := b4
  clear C1 b3 O3 CS X2 Y2 O2 B2 b4 bN y0 y1 y2 e0 e1 e2 e3
  have y0 := X4 0 _ rfl
  have y1 := X4 1 _ rfl
  have y2 := X4 2 _ rfl
  have e0 := Y4 0 _ rfl
  have e1 := Y4 1 _ rfl
  have e2 := Y4 2 _ rfl
  have e3 := Y4 3 _ rfl
  go_wp2_with fail
  generalize hbn : w3.heap.size = bn at *
  generalize w3.alloc (.cells #[.slice k3 m.kept.length c3, .slice l3 m.late.length d3, .int .i64 m.lock] 26) = w4 at *
  clear hbn
  refine (dUnhide CS4).mono ?_
  rintro r w5 ⟨⟨u5, rfl, O5⟩, b5⟩
  obtain ⟨k5, c5, l5, d5, rfl⟩ := O5.shape
  try simp only at O5
  have bO := ba w5 (.cells #[.slice k5 m.kept.length c5, .slice l5 m.late.length d5, .int .i64 m.lock] 26)
  have b6 := belowThen b5 bO
  have X6 := X4.below b6
  have Y6 := Y4.below b6
  have N6 := N4.below b6
  have O6 := O4.below b6
  have B6 := belowThen B4 b6
  have b26 := belowThen b24 b6
  clear CS4 b5 O5 X4 Y4 N4 O4 B4 b6 bO y0 y1 y2 e0 e1 e2 e3 b24
  have y0 := X6 0 _ rfl
  have y1 := X6 1 _ rfl
  have y2 := X6 2 _ rfl
  have n0 := N6 0 _ rfl
  have n1 := N6 1 _ rfl
  have n2 := N6 2 _ rfl
  cases mb
  · have hm := dUnhide TF m rfl
    clear TS TF TT TN HSR
    rcases hm with rfl | ⟨hns, rfl⟩
    · clear CO
      go_wp2
      go_ret
      exact ⟨rfl, B6⟩
    · have CF := dHide ((dUnhide CO _ b26).mono fun e w' h => (⟨h.1.of_no hns, h.2⟩ : e = .returned (.bool false) ∧ Below _ _ w'))
      clear CO hns
      have ez : zeroSt.kept.length = 0 := rfl
      have ez2 : zeroSt.late.length = 0 := rfl
      have ez3 : zeroSt.lock = 0 := rfl
      simp only [ez, ez2, ez3] at *
      by_cases hs0 : (0 : Int) = (s.late.length : Int)
      · have hq0 : ((0 : Int) == (s.late.length : Int)) = true := by simpa using hs0
        by_cases hs1 : (0 : Int) = (s.kept.length : Int)
        · have hq1 : ((0 : Int) == (s.kept.length : Int)) = true := by simpa using hs1
          clear hs0 hs1 CF
          go_wp2
          go_ret
          exact ⟨rfl, B6⟩
        · have hq1 : ((0 : Int) == (s.kept.length : Int)) = false := by simpa using hs1
          clear hs0 hs1
          go_wp2_with fail
          refine (dUnhide CF).mono ?_
          rintro r w7 ⟨rfl, b7⟩
          have N7 := N6.below b7
          have r0 := N7 0 _ rfl
          have B7 := belowThen B6 b7
          clear CF b7
          go_wp2
          go_ret
          exact ⟨rfl, B7⟩
      · have hq0 : ((0 : Int) == (s.late.length : Int)) = false := by simpa using hs0
        clear hs0
        go_wp2_with fail
        refine (dUnhide CF).mono ?_
        rintro r w7 ⟨rfl, b7⟩
        have N7 := N6.below b7
        have r0 := N7 0 _ rfl
        have B7 := belowThen B6 b7
        clear CF b7
        go_wp2
        go_ret
        exact ⟨rfl, B7⟩
  · have hms := dUnhide TT m rfl
    have CY := dHide (implSync_any _ m (w5.alloc (.cells #[.slice k5 m.kept.length c5, .slice l5 m.late.length d5, .int .i64 m.lock] 26)) O6.rs (stP_fit hms))
    have TS' := dHide fun n h => dUnhide TS m n rfl h
    have TN' := dHide fun n h => dUnhide TN m n rfl h
    have hml : m.late.length ≤ 20 := hms.2.1.1
    clear TS TF TT TN CO hms O6
    generalize hM : crashM m 1048575 = M at *
    clear hM
    obtain ⟨n, nb'⟩ := M
    go_wp2_with fail
    generalize w5.alloc (.cells #[.slice k5 m.kept.length c5, .slice l5 m.late.length d5, .int .i64 m.lock] 26) = w6 at *
    refine (dUnhide CY).mono ?_
    rintro r w7 ⟨⟨u7, rfl, O7⟩, b7⟩
    obtain ⟨k7, c7, l7, d7, rfl⟩ := O7.shape
    try simp only at O7
    have bP := ba w7 (.cells #[.slice k7 n.kept.length c7, .slice l7 n.late.length d7, .int .i64 n.lock] 26)
    have b8 := belowThen b7 bP
    have X8 := X6.below b8
    have Y8 := Y6.below b8
    have N8 := N6.below b8
    have R8 := Bx.new w7 [.slice k7 n.kept.length c7, .slice l7 n.late.length d7, .int .i64 n.lock] 26
    have O8 := O7.below bP
    have B8 := belowThen B6 b8
    have b28 := belowThen b26 b8
    clear CY b7 O7 X6 Y6 N6 B6 b8 bP y0 y1 y2 n0 n1 n2 b26
    cases nb'
    · have hn := dUnhide TN' n rfl
      have y0 := X8 0 _ rfl
      have n1 := N8 1 _ rfl
      have hsum : (200 : Int) < (s.kept.length : Int) + (m.late.length : Int) := by omega
      have hw : wrap64 ((s.kept.length : Int) + (m.late.length : Int)) = (s.kept.length : Int) + (m.late.length : Int) := by unfold wrap64; omega
      clear TS' TN' HSR hn
      go_wp2
      go_ret
      exact ⟨rfl, B8⟩
    · obtain ⟨hnr, hnl, hnk, go, hgo, hgw⟩ := dUnhide TS' n rfl
      clear TS' TN' N8
      have HK := dHide hnk
      have HL := dHide hnl
      have CK := dHide fun W (hb : Below (w7.alloc (.cells #[.slice k7 n.kept.length c7, .slice l7 n.late.length d7, .int .i64 n.lock] 26)).heap.size (w7.alloc (.cells #[.slice k7 n.kept.length c7, .slice l7 n.late.length d7, .int .i64 n.lock] 26)) W) => (implStoreOk_any _ n W (O8.below hb).rs (stP_fit hnr)).mono fun e w' h => (⟨h.1.of_yes hnr, h.2⟩ : e = .returned (.bool true) ∧ Below W.heap.size W w')
      have CG0 := dHide fun y W (hb : Below (w7.alloc (.cells #[.slice k7 n.kept.length c7, .slice l7 n.late.length d7, .int .i64 n.lock] 26)).heap.size (w7.alloc (.cells #[.slice k7 n.kept.length c7, .slice l7 n.late.length d7, .int .i64 n.lock] 26)) W) => implGet_any _ n y W (O8.below hb).rs (stP_fit hnr)
      have CE0 := dHide (dUnhide CG0 p0 _ (Below.refl _ _))
      rw [hgo] at CE0
      have CE : Hid (Calls Try.prog 12 #[.agg #[.slice k7 n.kept.length c7, .slice l7 n.late.length d7, .int .i64 n.lock], .int .i64 p0] (w7.alloc (.cells #[.slice k7 n.kept.length c7, .slice l7 n.late.length d7, .int .i64 n.lock] 26)) fun r w' => r = .returned (.tuple #[.agg #[.int .i64 go.pl, .int .i64 go.wave, .bool go.hole, .string go.data], .bool true]) ∧ Below (w7.alloc (.cells #[.slice k7 n.kept.length c7, .slice l7 n.late.length d7, .int .i64 n.lock] 26)).heap.size (w7.alloc (.cells #[.slice k7 n.kept.length c7, .slice l7 n.late.length d7, .int .i64 n.lock] 26)) w') := dUnhide CE0
      have hdw : p1 ≤ go.wave := hgw
      clear CE0 hnk hnl hgo hgw hnr O8
      have e0 := Y8 0 _ rfl
      go_wp2_with fail
      generalize hbs : w7.heap.size = bs at *
      generalize w7.alloc (.cells #[.slice k7 n.kept.length c7, .slice l7 n.late.length d7, .int .i64 n.lock] 26) = w8 at *
      clear hbs
      refine (dUnhide CE).mono ?_
      rintro r w9 ⟨rfl, b9⟩
      clear CE e0
      have bQ := ba w9 (.cells #[.int .i64 go.pl, .int .i64 go.wave, .bool go.hole, .string go.data] 28)
      have b10 := belowThen b9 bQ
      have G10 := Bx.new w9 [.int .i64 go.pl, .int .i64 go.wave, .bool go.hole, .string go.data] 28
      have X10 := X8.below b10
      have Y10 := Y8.below b10
      have R10 := R8.below b10
      have B10 := belowThen B8 b10
      have CK10 := dHide fun W (hb : Below (w9.alloc (.cells #[.int .i64 go.pl, .int .i64 go.wave, .bool go.hole, .string go.data] 28)).heap.size (w9.alloc (.cells #[.int .i64 go.pl, .int .i64 go.wave, .bool go.hole, .string go.data] 28)) W) => dUnhide CK W (belowThen b10 hb)
      have CG10 := dHide fun y W (hb : Below (w9.alloc (.cells #[.int .i64 go.pl, .int .i64 go.wave, .bool go.hole, .string go.data] 28)).heap.size (w9.alloc (.cells #[.int .i64 go.pl, .int .i64 go.wave, .bool go.hole, .string go.data] 28)) W) => dUnhide CG0 y W (belowThen b10 hb)
      have HSR10 := dHide fun W (hb : Below (w9.alloc (.cells #[.int .i64 go.pl, .int .i64 go.wave, .bool go.hole, .string go.data] 28)).heap.size (w9.alloc (.cells #[.int .i64 go.pl, .int .i64 go.wave, .bool go.hole, .string go.data] 28)) W) => dUnhide HSR W (belowThen b28 (belowThen b10 hb))
      clear b9 bQ b10 X8 Y8 R8 B8 CK CG0 HSR b28
      go_wp2
      generalize hbg : w9.heap.size = bg at *
      generalize w9.alloc (.cells #[.int .i64 go.pl, .int .i64 go.wave, .bool go.hole, .string go.data] 28) = w6 at *
      clear hbg
      go_loopw [13] (fun xv wr => ∃ k : Nat, xv = .int .i64 (k : Int) ∧ k ≤ s.kept.length ∧ Below w6.heap.size w6 wr) (fun xv _ => s.kept.length - (intOf xv).toNat)
      case atStart => exact ⟨0, rfl, Nat.zero_le _, Below.refl _ _⟩
      case round =>
        obtain ⟨k, rfl, hk, hb⟩ := hrel
        have X7 := X10.below hb
        have R7 := R10.below hb
        have n0 := X7 0 _ rfl
        by_cases hlt : (k : Int) < (s.kept.length : Int)
        · have hkl : k < s.kept.length := by omega
          obtain ⟨nb, no, rfl, hc⟩ := (dUnhide HSR10 wr hb).ent hkl
          have HXC := dHide fun W (hB : Below wr.heap.size wr W) => by
            obtain ⟨nb', no', e', hc'⟩ := (dUnhide HSR10 W (belowThen hb hB)).ent hkl
            cases e'
            exact hc' k hkl
          have HOk := dHide (dUnhide HK _ (List.getElem_mem hkl))
          have CG1 := dHide fun W (hB : Below wr.heap.size wr W) => dUnhide CG10 s.kept[k].pl W (belowThen hb hB)
          generalize s.kept[k] = x at *
          clear hc
          have PP : Hid (∀ W, Below wr.heap.size wr W → (W.cell? ⟨bs, 0, none⟩ = some (.slice k7 n.kept.length c7) ∧ W.cell? ⟨bs, 1, none⟩ = some (.slice l7 n.late.length d7) ∧ W.cell? ⟨bs, 2, none⟩ = some (.int .i64 n.lock)) ∧ W.cell? ⟨bx, 0, none⟩ = some (.slice (some ⟨nb, no, none⟩) s.kept.length kc) ∧ W.cell? ⟨nb, no + k * 4, none⟩ = some (.int .i64 x.pl)) := fun W hB => ⟨⟨(R7.below hB) 0 _ rfl, (R7.below hB) 1 _ rfl, (R7.below hB) 2 _ rfl⟩, (X7.below hB) 0 _ rfl, (dUnhide HXC W hB).1⟩
          obtain ⟨⟨q0, q1, q2⟩, q3, q4⟩ := dUnhide PP wr (Below.refl _ _)
          have bdr : Below wr.heap.size wr wr.drew := (Below.refl _ _).drew
          obtain ⟨ge, gb, hG1, hG2⟩ := findT_ex (getM n x.pl)
          obtain ⟨o, ho, how⟩ := dUnhide HOk
          obtain ⟨rfl, rfl⟩ := hG2 o ho
          have hdx : decide (ge.wave < x.wave) = false := decide_eq_false (by omega)
          have CG : Hid (∀ W, Below wr.heap.size wr W → Calls Try.prog 12 #[.agg #[.slice k7 n.kept.length c7, .slice l7 n.late.length d7, .int .i64 n.lock], .int .i64 x.pl] W fun r w' => r = .returned (.tuple #[.agg #[.int .i64 ge.pl, .int .i64 ge.wave, .bool ge.hole, .string ge.data], .bool true]) ∧ Below W.heap.size W w') := fun W hB => by have q := dUnhide CG1 W hB; rw [hG1] at q; exact q
          clear CG1 hG1 hG2 n0 ho how HOk
          go_wp2_with fail
          go_cut [14, 15] (fun s10 s11 wx => ∃ b1, s10 = .pointer (some ⟨b1, 0, none⟩) ∧ s11 = .bool true ∧ Bx wx b1 [.int .i64 ge.pl, .int .i64 ge.wave, .bool ge.hole, .string ge.data] ∧ Below wr.heap.size wr wx)
          case first =>
            refine wp_region_noPanic ?_
            refine wp_region_held_drew (S := fun W => (W.cell? ⟨bs, 0, none⟩ = some (.slice k7 n.kept.length c7) ∧ W.cell? ⟨bs, 1, none⟩ = some (.slice l7 n.late.length d7) ∧ W.cell? ⟨bs, 2, none⟩ = some (.int .i64 n.lock)) ∧ W.cell? ⟨bx, 0, none⟩ = some (.slice (some ⟨nb, no, none⟩) s.kept.length kc) ∧ W.cell? ⟨nb, no + k * 4, none⟩ = some (.int .i64 x.pl)) (by kernel_rfl) (by first | with_reducible exact dUnhide PP _ hwd | exact dUnhide PP _ (Below.refl _ _) | exact dUnhide PP _ bdr | go_keep) (fun hHeld => ?_)
            have hwd : Below wr.heap.size wr wr.drew := (Below.refl _ _).drew
            generalize wr.drew = wd at *
            refine wpAnyH_take (i := 0) (oi := { dst := some 97, op := Op.load 26 (Operand.tmp 9), type := 26, pos := "laws.go:424", after := #[], guard := none }) (v := ?_) rfl (by kernel_rfl) (by kernel_rfl) (by kernel_rfl) (fun _ _ _ h => h) (Or.inl ⟨by rfl, ?_⟩) (by assumption) ?_
            rotate_left 1
            · intro w hSw
              (try dsimp only at hSw)
              first | (go_simp; done) | (go_simp; with_reducible rfl)
            try simp only [Act.put, List.setIfInBounds_toArray, List.set_cons_zero, List.set_cons_succ]
            refine wpAnyH_take (i := 1) (oi := { dst := some 98, op := Op.fieldAddr 26 (Operand.tmp 3) 0, type := 0, pos := "laws.go:424", after := #[], guard := none }) (v := ?_) rfl (by kernel_rfl) (by kernel_rfl) (by kernel_rfl) (fun _ _ _ h => h) (Or.inl ⟨by rfl, ?_⟩) (by assumption) ?_
            rotate_left 1
            · intro w hSw
              (try dsimp only at hSw)
              first | (go_simp; done) | (go_simp; with_reducible rfl)
            try simp only [Act.put, List.setIfInBounds_toArray, List.set_cons_zero, List.set_cons_succ]
            refine wpAnyH_take (i := 2) (oi := { dst := some 99, op := Op.load 24 (Operand.tmp 98), type := 24, pos := "laws.go:424", after := #[{ on := 1, ground := Ground.data }], guard := none }) (v := ?_) rfl (by kernel_rfl) (by kernel_rfl) (by kernel_rfl) (fun _ _ _ h => h) (Or.inl ⟨by rfl, ?_⟩) (by assumption) ?_
            rotate_left 1
            · intro w hSw
              (try dsimp only at hSw)
              first | (go_simp; done) | (go_simp; with_reducible rfl)
            try simp only [Act.put, List.setIfInBounds_toArray, List.set_cons_zero, List.set_cons_succ]
            refine wpAnyH_take (i := 3) (oi := { dst := some 100, op := Op.move (Operand.tmp 13), type := 3, pos := "laws.go:424", after := #[], guard := none }) (v := ?_) rfl (by kernel_rfl) (by kernel_rfl) (by kernel_rfl) (fun _ _ _ h => h) (Or.inl ⟨by rfl, ?_⟩) (by assumption) ?_
            rotate_left 1
            · intro w hSw
              (try dsimp only at hSw)
              first | (go_simp; done) | (go_simp; with_reducible rfl)
            try simp only [Act.put, List.setIfInBounds_toArray, List.set_cons_zero, List.set_cons_succ]
            refine wpAnyH_take (i := 4) (oi := { dst := some 101, op := Op.indexAddr 24 (Operand.tmp 99) (Operand.tmp 100), type := 0, pos := "laws.go:424", after := #[{ on := 2, ground := Ground.data }, { on := 3, ground := Ground.data }], guard := none }) (v := ?_) rfl (by kernel_rfl) (by kernel_rfl) (by kernel_rfl) (fun _ _ _ h => h) (Or.inl ⟨by rfl, ?_⟩) (by assumption) ?_
            rotate_left 1
            · intro w hSw
              (try dsimp only at hSw)
              first | (go_simp; done) | (go_simp; with_reducible rfl)
            try simp only [Act.put, List.setIfInBounds_toArray, List.set_cons_zero, List.set_cons_succ]
            refine wpAnyH_take (i := 5) (oi := { dst := some 102, op := Op.fieldAddr 28 (Operand.tmp 101) 0, type := 0, pos := "laws.go:424", after := #[{ on := 4, ground := Ground.data }], guard := none }) (v := ?_) rfl (by kernel_rfl) (by kernel_rfl) (by kernel_rfl) (fun _ _ _ h => h) (Or.inl ⟨by rfl, ?_⟩) (by assumption) ?_
            rotate_left 1
            · intro w hSw
              (try dsimp only at hSw)
              first | (go_simp; done) | (go_simp; with_reducible rfl)
            try simp only [Act.put, List.setIfInBounds_toArray, List.set_cons_zero, List.set_cons_succ]
            refine wpAnyH_take (i := 6) (oi := { dst := some 103, op := Op.load 3 (Operand.tmp 102), type := 3, pos := "laws.go:424", after := #[{ on := 5, ground := Ground.data }], guard := none }) (v := ?_) rfl (by kernel_rfl) (by kernel_rfl) (by kernel_rfl) (fun _ _ _ h => h) (Or.inl ⟨by rfl, ?_⟩) (by assumption) ?_
            rotate_left 1
            · intro w hSw
              (try dsimp only at hSw)
              first | (go_simp; done) | (go_simp; with_reducible rfl)
            try simp only [Act.put, List.setIfInBounds_toArray, List.set_cons_zero, List.set_cons_succ]
            refine wpAnyH_ready (rs := [7, 11]) (by kernel_rfl) (by simp) ?_
            refine AllReadyH.cons (o := { dst := some 104, op := Op.call { callee := Callee.value (Operand.func 12), args := #[Operand.tmp 97, Operand.tmp 103], argTypes := #[26, 3] }, type := 35, pos := "laws.go:424", after := #[{ on := 0, ground := Ground.data }, { on := 6, ground := Ground.data }], guard := none }) rfl (fun K hK => ?_) (AllReadyH.cons (o := { dst := some 14, op := Op.alloc 28, type := 0, pos := "laws.go:424", after := #[], guard := none }) rfl (fun K hK => ?_) AllReadyH.nil)
            · go_simp
              refine (dUnhide CG _ hwd).mono ?_
              rintro r wn ⟨rfl, bn⟩
              try replace N1 := N1.below bn
              try (replace lt1 : b1 < wn.heap.size := by have := bn.size; omega)
              replace hwd := belowThen hwd bn
              clear bn
              generalize wn = wd at *
              (try go_wp2_with fail)
              refine hK.out _ _ (by first | with_reducible exact dUnhide PP _ hwd | exact dUnhide PP _ (Below.refl _ _) | exact dUnhide PP _ bdr | go_keep) (fun hHeld => ?_)
              clear hK K
              try simp only [Act.put, List.setIfInBounds_toArray, List.set_cons_zero, List.set_cons_succ]
              refine wpAnyH_take (i := 8) (oi := { dst := some 96, op := Op.move (Operand.tmp 104), type := 35, pos := "laws.go:424", after := #[{ on := 7, ground := Ground.data }], guard := none }) (v := ?_) rfl (by kernel_rfl) (by kernel_rfl) (by kernel_rfl) (fun _ _ _ h => h) (Or.inl ⟨by rfl, ?_⟩) (by assumption) ?_
              rotate_left 1
              · intro w hSw
                (try dsimp only at hSw)
                first | (go_simp; done) | (go_simp; with_reducible rfl)
              try simp only [Act.put, List.setIfInBounds_toArray, List.set_cons_zero, List.set_cons_succ]
              refine wpAnyH_take (i := 9) (oi := { dst := some 105, op := Op.extract (Operand.tmp 96) 0, type := 28, pos := "laws.go:424", after := #[{ on := 8, ground := Ground.data }], guard := none }) (v := ?_) rfl (by kernel_rfl) (by kernel_rfl) (by kernel_rfl) (fun _ _ _ h => h) (Or.inl ⟨by rfl, ?_⟩) (by assumption) ?_
              rotate_left 1
              · intro w hSw
                (try dsimp only at hSw)
                first | (go_simp; done) | (go_simp; with_reducible rfl)
              try simp only [Act.put, List.setIfInBounds_toArray, List.set_cons_zero, List.set_cons_succ]
              refine wpAnyH_take (i := 10) (oi := { dst := some 106, op := Op.extract (Operand.tmp 96) 1, type := 4, pos := "laws.go:424", after := #[{ on := 8, ground := Ground.data }, { on := 12, ground := Ground.gcOnly Departure.lateStores }], guard := none }) (v := ?_) rfl (by kernel_rfl) (by kernel_rfl) (by kernel_rfl) (fun _ _ _ h => h) (Or.inl ⟨by rfl, ?_⟩) (by assumption) ?_
              rotate_left 1
              · intro w hSw
                (try dsimp only at hSw)
                first | (go_simp; done) | (go_simp; with_reducible rfl)
              try simp only [Act.put, List.setIfInBounds_toArray, List.set_cons_zero, List.set_cons_succ]
              refine wpAnyH_ready (rs := [11]) (by kernel_rfl) (by simp) ?_
              refine AllReadyH.cons (o := { dst := some 14, op := Op.alloc 28, type := 0, pos := "laws.go:424", after := #[], guard := none }) rfl (fun K hK => ?_) AllReadyH.nil
              go_simp
              have N1 := BxZ.new (B := 0) wd [.int .i64 0, .int .i64 0, .bool false, .string ⟨#[]⟩] 28 (Nat.zero_le _)
              have es : (wd.alloc (.cells #[.int .i64 0, .int .i64 0, .bool false, .string ⟨#[]⟩] 28)).heap.size = wd.heap.size + 1 := by simp
              have ln1 : wr.heap.size ≤ wd.heap.size := hwd.size
              replace hwd := belowThen hwd (ba wd (.cells #[.int .i64 0, .int .i64 0, .bool false, .string ⟨#[]⟩] 28))
              have lt1 : wd.heap.size < (wd.alloc (.cells #[.int .i64 0, .int .i64 0, .bool false, .string ⟨#[]⟩] 28)).heap.size := by omega
              clear es
              generalize wd.heap.size = b1 at *
              generalize wd.alloc (.cells #[.int .i64 0, .int .i64 0, .bool false, .string ⟨#[]⟩] 28) = wd at *
              refine hK.out _ _ (by first | with_reducible exact dUnhide PP _ hwd | exact dUnhide PP _ (Below.refl _ _) | exact dUnhide PP _ bdr | go_keep) (fun hHeld => ?_)
              clear hK K
              try simp only [Act.put, List.setIfInBounds_toArray, List.set_cons_zero, List.set_cons_succ]
              refine wpAnyH_ready (rs := [12]) (by kernel_rfl) (by simp) ?_
              refine AllReadyH.cons (o := { dst := none, op := Op.store 28 (Operand.tmp 14) (Operand.tmp 105), type := 0, pos := "laws.go:424", after := #[{ on := 11, ground := Ground.data }, { on := 9, ground := Ground.data }, { on := 7, ground := Ground.chain }, { on := 0, ground := Ground.phase }, { on := 1, ground := Ground.phase }, { on := 2, ground := Ground.phase }, { on := 3, ground := Ground.phase }, { on := 4, ground := Ground.phase }, { on := 5, ground := Ground.phase }, { on := 6, ground := Ground.phase }, { on := 7, ground := Ground.phase }, { on := 8, ground := Ground.phase }, { on := 9, ground := Ground.phase }, { on := 10, ground := Ground.textOnly Departure.lateStores }, { on := 11, ground := Ground.phase }], guard := none }) rfl (fun K hK => ?_) AllReadyH.nil
              obtain ⟨g0, h0⟩ := N1.2 0 _ rfl
              obtain ⟨g1, h1⟩ := N1.2 1 _ rfl
              obtain ⟨g2, h2⟩ := N1.2 2 _ rfl
              obtain ⟨g3, h3⟩ := N1.2 3 _ rfl
              go_simp
              have M1 := (((N1.put 0 (.int .i64 ge.pl)).put 1 (.int .i64 ge.wave)).put 2 (.bool ge.hole)).put 3 (.string ge.data)
              replace hwd := (((hwd.setCell (p := ⟨b1, 0, none⟩) ln1 (.int .i64 ge.pl)).setCell (p := ⟨b1, 1, none⟩) ln1 (.int .i64 ge.wave)).setCell (p := ⟨b1, 2, none⟩) ln1 (.bool ge.hole)).setCell (p := ⟨b1, 3, none⟩) ln1 (.string ge.data)
              clear g0 g1 g2 g3 h0 h1 h2 h3
              generalize (((wd.setCell ⟨b1, 0, none⟩ (.int .i64 ge.pl)).setCell ⟨b1, 1, none⟩ (.int .i64 ge.wave)).setCell ⟨b1, 2, none⟩ (.bool ge.hole)).setCell ⟨b1, 3, none⟩ (.string ge.data) = wd at *
              refine hK.out _ _ (by first | with_reducible exact dUnhide PP _ hwd | exact dUnhide PP _ (Below.refl _ _) | exact dUnhide PP _ bdr | go_keep) (fun hHeld => ?_)
              clear hK K
              try simp only [Act.put, List.setIfInBounds_toArray, List.set_cons_zero, List.set_cons_succ]
              refine wpAnyH_take (i := 13) (oi := { dst := some 15, op := Op.assign (Operand.tmp 106), type := 4, pos := "laws.go:424", after := #[{ on := 10, ground := Ground.data }, { on := 12, ground := Ground.chain }, { on := 0, ground := Ground.phase }, { on := 1, ground := Ground.phase }, { on := 2, ground := Ground.phase }, { on := 3, ground := Ground.phase }, { on := 4, ground := Ground.phase }, { on := 5, ground := Ground.phase }, { on := 6, ground := Ground.phase }, { on := 7, ground := Ground.phase }, { on := 8, ground := Ground.phase }, { on := 9, ground := Ground.phase }, { on := 10, ground := Ground.phase }, { on := 11, ground := Ground.phase }, { on := 12, ground := Ground.phase }], guard := none }) (v := ?_) rfl (by kernel_rfl) (by kernel_rfl) (by kernel_rfl) (fun _ _ _ h => h) (Or.inl ⟨by rfl, ?_⟩) (by assumption) ?_
              rotate_left 1
              · intro w hSw
                (try dsimp only at hSw)
                first | (go_simp; done) | (go_simp; with_reducible rfl)
              try simp only [Act.put, List.setIfInBounds_toArray, List.set_cons_zero, List.set_cons_succ]
              refine wpAnyH_done (by kernel_rfl) ?_ _
              refine NoPanic.normal ?_
              go_wp2_with fail
              go_meet
              case rel => exact ⟨b1, rfl, rfl, M1.bx, hwd⟩
            · go_simp
              have N1 := BxZ.new (B := 0) wd [.int .i64 0, .int .i64 0, .bool false, .string ⟨#[]⟩] 28 (Nat.zero_le _)
              have es : (wd.alloc (.cells #[.int .i64 0, .int .i64 0, .bool false, .string ⟨#[]⟩] 28)).heap.size = wd.heap.size + 1 := by simp
              have ln1 : wr.heap.size ≤ wd.heap.size := hwd.size
              replace hwd := belowThen hwd (ba wd (.cells #[.int .i64 0, .int .i64 0, .bool false, .string ⟨#[]⟩] 28))
              have lt1 : wd.heap.size < (wd.alloc (.cells #[.int .i64 0, .int .i64 0, .bool false, .string ⟨#[]⟩] 28)).heap.size := by omega
              clear es
              generalize wd.heap.size = b1 at *
              generalize wd.alloc (.cells #[.int .i64 0, .int .i64 0, .bool false, .string ⟨#[]⟩] 28) = wd at *
              refine hK.out _ _ (by first | with_reducible exact dUnhide PP _ hwd | exact dUnhide PP _ (Below.refl _ _) | exact dUnhide PP _ bdr | go_keep) (fun hHeld => ?_)
              clear hK K
              try simp only [Act.put, List.setIfInBounds_toArray, List.set_cons_zero, List.set_cons_succ]
              refine wpAnyH_ready (rs := [7]) (by kernel_rfl) (by simp) ?_
              refine AllReadyH.cons (o := { dst := some 104, op := Op.call { callee := Callee.value (Operand.func 12), args := #[Operand.tmp 97, Operand.tmp 103], argTypes := #[26, 3] }, type := 35, pos := "laws.go:424", after := #[{ on := 0, ground := Ground.data }, { on := 6, ground := Ground.data }], guard := none }) rfl (fun K hK => ?_) AllReadyH.nil
              go_simp
              refine (dUnhide CG _ hwd).mono ?_
              rintro r wn ⟨rfl, bn⟩
              try replace N1 := N1.below bn
              try (replace lt1 : b1 < wn.heap.size := by have := bn.size; omega)
              replace hwd := belowThen hwd bn
              clear bn
              generalize wn = wd at *
              (try go_wp2_with fail)
              refine hK.out _ _ (by first | with_reducible exact dUnhide PP _ hwd | exact dUnhide PP _ (Below.refl _ _) | exact dUnhide PP _ bdr | go_keep) (fun hHeld => ?_)
              clear hK K
              try simp only [Act.put, List.setIfInBounds_toArray, List.set_cons_zero, List.set_cons_succ]
              refine wpAnyH_take (i := 8) (oi := { dst := some 96, op := Op.move (Operand.tmp 104), type := 35, pos := "laws.go:424", after := #[{ on := 7, ground := Ground.data }], guard := none }) (v := ?_) rfl (by kernel_rfl) (by kernel_rfl) (by kernel_rfl) (fun _ _ _ h => h) (Or.inl ⟨by rfl, ?_⟩) (by assumption) ?_
              rotate_left 1
              · intro w hSw
                (try dsimp only at hSw)
                first | (go_simp; done) | (go_simp; with_reducible rfl)
              try simp only [Act.put, List.setIfInBounds_toArray, List.set_cons_zero, List.set_cons_succ]
              refine wpAnyH_take (i := 9) (oi := { dst := some 105, op := Op.extract (Operand.tmp 96) 0, type := 28, pos := "laws.go:424", after := #[{ on := 8, ground := Ground.data }], guard := none }) (v := ?_) rfl (by kernel_rfl) (by kernel_rfl) (by kernel_rfl) (fun _ _ _ h => h) (Or.inl ⟨by rfl, ?_⟩) (by assumption) ?_
              rotate_left 1
              · intro w hSw
                (try dsimp only at hSw)
                first | (go_simp; done) | (go_simp; with_reducible rfl)
              try simp only [Act.put, List.setIfInBounds_toArray, List.set_cons_zero, List.set_cons_succ]
              refine wpAnyH_take (i := 10) (oi := { dst := some 106, op := Op.extract (Operand.tmp 96) 1, type := 4, pos := "laws.go:424", after := #[{ on := 8, ground := Ground.data }, { on := 12, ground := Ground.gcOnly Departure.lateStores }], guard := none }) (v := ?_) rfl (by kernel_rfl) (by kernel_rfl) (by kernel_rfl) (fun _ _ _ h => h) (Or.inl ⟨by rfl, ?_⟩) (by assumption) ?_
              rotate_left 1
              · intro w hSw
                (try dsimp only at hSw)
                first | (go_simp; done) | (go_simp; with_reducible rfl)
              try simp only [Act.put, List.setIfInBounds_toArray, List.set_cons_zero, List.set_cons_succ]
              refine wpAnyH_ready (rs := [12]) (by kernel_rfl) (by simp) ?_
              refine AllReadyH.cons (o := { dst := none, op := Op.store 28 (Operand.tmp 14) (Operand.tmp 105), type := 0, pos := "laws.go:424", after := #[{ on := 11, ground := Ground.data }, { on := 9, ground := Ground.data }, { on := 7, ground := Ground.chain }, { on := 0, ground := Ground.phase }, { on := 1, ground := Ground.phase }, { on := 2, ground := Ground.phase }, { on := 3, ground := Ground.phase }, { on := 4, ground := Ground.phase }, { on := 5, ground := Ground.phase }, { on := 6, ground := Ground.phase }, { on := 7, ground := Ground.phase }, { on := 8, ground := Ground.phase }, { on := 9, ground := Ground.phase }, { on := 10, ground := Ground.textOnly Departure.lateStores }, { on := 11, ground := Ground.phase }], guard := none }) rfl (fun K hK => ?_) AllReadyH.nil
              obtain ⟨g0, h0⟩ := N1.2 0 _ rfl
              obtain ⟨g1, h1⟩ := N1.2 1 _ rfl
              obtain ⟨g2, h2⟩ := N1.2 2 _ rfl
              obtain ⟨g3, h3⟩ := N1.2 3 _ rfl
              go_simp
              have M1 := (((N1.put 0 (.int .i64 ge.pl)).put 1 (.int .i64 ge.wave)).put 2 (.bool ge.hole)).put 3 (.string ge.data)
              replace hwd := (((hwd.setCell (p := ⟨b1, 0, none⟩) ln1 (.int .i64 ge.pl)).setCell (p := ⟨b1, 1, none⟩) ln1 (.int .i64 ge.wave)).setCell (p := ⟨b1, 2, none⟩) ln1 (.bool ge.hole)).setCell (p := ⟨b1, 3, none⟩) ln1 (.string ge.data)
              clear g0 g1 g2 g3 h0 h1 h2 h3
              generalize (((wd.setCell ⟨b1, 0, none⟩ (.int .i64 ge.pl)).setCell ⟨b1, 1, none⟩ (.int .i64 ge.wave)).setCell ⟨b1, 2, none⟩ (.bool ge.hole)).setCell ⟨b1, 3, none⟩ (.string ge.data) = wd at *
              refine hK.out _ _ (by first | with_reducible exact dUnhide PP _ hwd | exact dUnhide PP _ (Below.refl _ _) | exact dUnhide PP _ bdr | go_keep) (fun hHeld => ?_)
              clear hK K
              try simp only [Act.put, List.setIfInBounds_toArray, List.set_cons_zero, List.set_cons_succ]
              refine wpAnyH_take (i := 13) (oi := { dst := some 15, op := Op.assign (Operand.tmp 106), type := 4, pos := "laws.go:424", after := #[{ on := 10, ground := Ground.data }, { on := 12, ground := Ground.chain }, { on := 0, ground := Ground.phase }, { on := 1, ground := Ground.phase }, { on := 2, ground := Ground.phase }, { on := 3, ground := Ground.phase }, { on := 4, ground := Ground.phase }, { on := 5, ground := Ground.phase }, { on := 6, ground := Ground.phase }, { on := 7, ground := Ground.phase }, { on := 8, ground := Ground.phase }, { on := 9, ground := Ground.phase }, { on := 10, ground := Ground.phase }, { on := 11, ground := Ground.phase }, { on := 12, ground := Ground.phase }], guard := none }) (v := ?_) rfl (by kernel_rfl) (by kernel_rfl) (by kernel_rfl) (fun _ _ _ h => h) (Or.inl ⟨by rfl, ?_⟩) (by assumption) ?_
              rotate_left 1
              · intro w hSw
                (try dsimp only at hSw)
                first | (go_simp; done) | (go_simp; with_reducible rfl)
              try simp only [Act.put, List.setIfInBounds_toArray, List.set_cons_zero, List.set_cons_succ]
              refine wpAnyH_done (by kernel_rfl) ?_ _
              refine NoPanic.normal ?_
              go_wp2_with fail
              go_meet
              case rel => exact ⟨b1, rfl, rfl, M1.bx, hwd⟩
          case rest =>
            obtain ⟨b1, rfl, rfl, M1, bx7⟩ := hcut
            generalize wc = wx at *
            clear q0 q1 q2 q3 q4
            obtain ⟨-, q3, -⟩ := dUnhide PP wx bx7
            obtain ⟨u0, u1, u2, u3⟩ := dUnhide HXC wx bx7
            have s1 := M1 1 _ rfl
            have hbw := belowThen hb bx7
            clear CG bdr M1 PP HXC bx7
            go_wp2
            go_quiet (fail)
            go_wp2
            go_roundw
            case rel => exact ⟨k + 1, by go_num, by omega, below_drewN hbw _⟩
            case measure => simp [intOf]; omega
        · have hl0 : n.late.length = 0 := by rw [dUnhide HL]; rfl
          have B7 := belowThen B10 hb
          have G7 := G10.below hb
          have Y7 := Y10.below hb
          have g1 := G7 1 _ rfl
          have f1 := Y7 1 _ rfl
          have r0 := R7 0 _ rfl
          have r1 := R7 1 _ rfl
          have r2 := R7 2 _ rfl
          have CK7 := dHide (dUnhide CK10 wr hb)
          rw [hl0] at r1 CK7
          clear hl0 HL HK HSR10 CG10 CK10 X7 R7 X10 R10 Y10 G10 Y7 G7
          go_wp2_with fail
          refine (dUnhide CK7).mono ?_
          rintro r w9 ⟨rfl, b9⟩
          have B9 := belowThen B7 b9
          clear CK7 b9
          go_wp2
          go_ret
          exact ⟨rfl, B9⟩
end Go.Proofs.Ytejmfohkobhidaa
