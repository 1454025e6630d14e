/- The walk of the law FnRest. -/
import Derived.Test.YtgedaaknkhkegaaDrwG
import Derived.Test.YtgedaaknkhkegaaDomJ
import Derived.Test.YtgedaaknkhkegaaWithN
import Derived.Test.YtgedaaknkhkegaaImplD
import Derived.Test.YtgedaaknkhkegaaBigB
import Derived.Test.YtgedaaknkhkegaaRowB
import Derived.Deep.RegionHeld3
import Derived.Deep.DeepCutAuto
namespace Go.Proofs.Ytgedaaknkhkegaa
open Go.ChangeShapes Go.WideShapes Go.ChangeAt Go.RowKit
set_option linter.unusedVariables false
set_option linter.unusedSimpArgs false

theorem RetB.ends {p : Prop} {e : Ending} (h : RetB p e) : ∃ b : Bool, e = .returned (.bool b) ∧ (b = true ↔ p) := h
set_option maxHeartbeats 4000000 in
set_option maxRecDepth 100000 in
theorem walkFnRest (a0 : Option Addr) (len0 cap0 : Nat) (z0 : List Int) (w : World) (w0 : IsRow .u8 w a0 len0 cap0 z0) :
    Calls Try.prog 4 #[.slice a0 len0 cap0] w fun e w' => e = .returned (.bool true) ∧ Below w.heap.size w w' := by
  have hr := row8_of w0
  have hlen := hr.1
  clear w0
  by_cases hbig : 1048576 < len0
  · have CB := dHide (big_yes a0 len0 cap0 hbig hlen)
    go_enter Try.func4, Try.ntmps4
    go_wp2_with fail
    refine (dUnhide CB _).mono ?_
    rintro e w1 ⟨rfl, rfl⟩
    go_wp2
    go_ret
    exact ⟨rfl, Below.refl _ _⟩
  have CB := dHide (big_no a0 len0 cap0 hbig)
  have CD := dHide (drawRest_any a0 len0 cap0 w hr)
  have ha : ∀ (w : World) o, Below w.heap.size w (w.alloc o) := fun w o => (Below.refl _ _).alloc (Nat.le_refl _) o
  clear hbig hr
  go_enter Try.func4, Try.ntmps4
  go_wp2_with fail
  refine (dUnhide CB _).mono ?_
  rintro e w1 ⟨rfl, rfl⟩
  clear CB
  go_wp2_with fail
  refine (dUnhide CD).mono ?_
  rintro e w1 ⟨⟨c, u, v, ds, cop, xs, ys, rfl, ⟨sv, rfl, o1, hdl, hda, c0, c1⟩, ⟨ox, hxl, hxa⟩, ⟨oy, hyl, hya⟩⟩, B1⟩
  clear CD
  have n1 := o1.bs
  have n2 := ox.bs
  have n3 := oy.bs
  obtain ⟨-, sa, scap, rfl, -, -⟩ := o1
  obtain ⟨-, ua, ucap, rfl, -, -⟩ := ox
  obtain ⟨-, va, vcap, rfl, -, -⟩ := oy
  have ba := ha w1 (.cells #[.slice sa ds.length scap, .int .i64 cop] 26)
  have T2 := Two.new w1 (.slice sa ds.length scap) (.int .i64 cop) 26
  have HN1 := dHide (n1.below ba)
  have HN2 := dHide (n2.below ba)
  have HN3 := dHide (n3.below ba)
  have B2 := belowThen B1 ba
  clear n1 n2 n3 B1 ba
  go_wp2_with fail
  generalize hbx : w1.heap.size = bx at *
  generalize w1.alloc (.cells #[.slice sa ds.length scap, .int .i64 cop] 26) = w2 at *
  clear hbx
  have K : Hid (∀ W, Below w2.heap.size w2 W → (W.cell? ⟨bx, 0, none⟩ = some (.slice sa ds.length scap) ∧ W.cell? ⟨bx, 1, none⟩ = some (.int .i64 cop)) ∧ Ns W (.slice sa ds.length scap) ds ∧ Ns W (.slice ua xs.length ucap) xs ∧ Ns W (.slice va ys.length vcap) ys ∧ Below w.heap.size w W) := fun W hb => ⟨T2.kept hb, (dUnhide HN1).below hb, (dUnhide HN2).below hb, (dUnhide HN3).below hb, belowThen B2 hb⟩
  clear T2 HN1 HN2 HN3 B2
  have hb2 := Below.refl w2.heap.size w2
  obtain ⟨-, m1, m2, m3, -⟩ := dUnhide K w2 hb2
  by_cases hn : nodesP ds cop xs ∧ nodesP ds cop ys
  · obtain ⟨hx, hy⟩ := hn
    refine (implRest_yes _ _ _ ds xs ys cop w2 m1 m2 m3 hda hxa hya (by omega) (by omega) (by omega) (by omega) (by omega) hx hy).mono ?_
    rintro e w3 ⟨⟨r, rfl, or3⟩, b3⟩
    have hb3 := belowThen hb2 b3
    have R3 := dHide or3.bs
    have hRl := lessL_len xs ys
    have hRm : Hid (∀ x, x ∈ lessL xs ys ↔ x ∈ xs ∧ ¬ x ∈ ys) := fun x => mem_lessL
    have hRn : Hid (nodesP ds cop (lessL xs ys)) := nodesP_less hx
    have hRs : Hid (spanN ds (lessL xs ys) ≤ spanN ds xs) := spanN_mono fun x h => (mem_lessL.1 h).1
    have C4 := dHide fun W a b c (h1 : Ns W a ds) (h2 : Ns W b xs) (h3 : Ns W c ys) => specRest_yes a b c ds xs ys cop W h1 h2 h3 hx hy (by omega)
    obtain ⟨-, ra, rcap, rfl, -, -⟩ := or3
    have hRa : Hid (allInt (lessL xs ys)) := fun x h => hxa x (mem_lessL.1 h).1
    generalize lessL xs ys = R at *
    clear m1 m2 m3 b3 hb2
    obtain ⟨⟨k0, k1⟩, m1, m2, m3, -⟩ := dUnhide K w3 hb3
    have C4 := dHide (dUnhide C4 w3 _ _ _ m1 m2 m3)
    clear m1 m2 m3
    go_wp2_with fail
    refine (dUnhide C4).mono ?_
    rintro e w4 ⟨⟨q, rfl, oq4⟩, b4⟩
    have hb4 := belowThen hb3 b4
    have R4 := (dUnhide R3).below b4
    have HR4 := dHide R4
    have Q4 := oq4.bs
    obtain ⟨-, qa, qcap, rfl, -, -⟩ := oq4
    have C5 := dHide (sameInts_yes _ _ R w4 R4 Q4)
    clear C4 R3 R4 Q4 b4 hb3 k0 k1
    go_wp2_with fail
    refine (dUnhide C5).mono ?_
    rintro e w5 ⟨rfl, b5⟩
    have hb5 := belowThen hb4 b5
    have R5 := dHide ((dUnhide HR4).below b5)
    clear C5 b5 hb4 HR4
    obtain ⟨⟨k0, k1⟩, m1, m2, m3, -⟩ := dUnhide K w5 hb5
    have C6 := dHide (specNodes_any _ _ ds xs cop w5 m1 m2)
    clear m1 m2 m3
    go_wp2_with fail
    refine (dUnhide C6).mono ?_
    rintro e w6 ⟨h6, b6⟩
    obtain rfl := h6.of_yes hx
    have hb6 := belowThen hb5 b6
    have R6 := dHide ((dUnhide R5).below b6)
    clear C6 b6 hb5 k0 k1 h6 R5
    obtain ⟨⟨k0, k1⟩, m1, m2, m3, -⟩ := dUnhide K w6 hb6
    have C7 := dHide (specNodes_any _ _ ds ys cop w6 m1 m3)
    clear m1 m2 m3
    go_wp2_with fail
    refine (dUnhide C7).mono ?_
    rintro e w7 ⟨h7, b7⟩
    obtain rfl := h7.of_yes hy
    have hb7 := dHide (belowThen hb6 b7)
    have R7 := dHide ((dUnhide R6).below b7)
    clear C7 b7 hb6 k0 k1 h7 R6
    have HX := dHide hx
    have HY := dHide hy
    have HDA := dHide hda
    have HXA := dHide hxa
    clear hx hy hda hxa hya
    go_wp2
    go_loopw [7] (fun xi wr => ∃ k : Nat, xi = .int .i64 (k : Int) ∧ k ≤ xs.length ∧ Hid (Drew w7 wr)) (fun xi _ => xs.length - (intOf xi).toNat)
    case atStart => exact ⟨0, rfl, Nat.zero_le _, Drew.refl _⟩
    case round =>
      obtain ⟨k, rfl, hk, hdr⟩ := hrel
      have hbr := dHide (belowThen (dUnhide hb7) (dUnhide hdr).below)
      have Rr := dHide ((dUnhide R7).below (dUnhide hdr).below)
      obtain ⟨⟨k0, k1⟩, m1, m2, m3, Br⟩ := dUnhide K wr (dUnhide hbr)
      by_cases hkl : (k : Int) < (xs.length : Int)
      · have hkx : k < xs.length := by omega
        obtain ⟨h0, a9, c9, h9, -, hu⟩ := id m2
        cases h9
        obtain ⟨g, off, rfl, hc⟩ := orN_of_lt hu (k := k) hkx
        have cg := hc k hkx
        have CR := dHide fun W (h : Drew wr W) => within_any (.slice ra R.length rcap) R xs[k] W ((dUnhide Rr).below h.below)
        have CY := dHide fun W (h : Drew wr W) => within_any (.slice va ys.length vcap) ys xs[k] W (m3.below h.below)
        have hin : xs[k] ∈ xs := List.getElem_mem hkx
        have hRm' := dUnhide hRm xs[k]
        generalize xs[k] = x at *
        clear hu hc m1 m2 m3
        by_cases hxy : x ∈ ys
        · have hxR : ¬ x ∈ R := fun h => (hRm'.1 h).2 hxy
          clear hRm'
          go_wp2
          go_quiet (first | (go_at_call_of 19 (Value.slice ra R.length rcap); refine Calls.quiet_of_same ((dUnhide CR _ ⟨_, rfl⟩).mono fun e w' h => ⟨h.1.of_no hxR, h.2⟩)) | (go_at_call_of 19 (Value.slice va ys.length vcap); refine Calls.quiet_of_same ((dUnhide CY _ ⟨_, rfl⟩).mono fun e w' h => ⟨h.1.of_yes hxy, h.2⟩)))
          go_wp2
          go_roundw
          case rel => exact ⟨k + 1, by go_num, by omega, (dUnhide hdr).drewN _⟩
          case measure => simp [intOf]; omega
        · have hxR : x ∈ R := hRm'.2 ⟨hin, hxy⟩
          clear hRm'
          go_wp2
          go_quiet (first | (go_at_call_of 19 (Value.slice ra R.length rcap); refine Calls.quiet_of_same ((dUnhide CR _ ⟨_, rfl⟩).mono fun e w' h => ⟨h.1.of_yes hxR, h.2⟩)) | (go_at_call_of 19 (Value.slice va ys.length vcap); refine Calls.quiet_of_same ((dUnhide CY _ ⟨_, rfl⟩).mono fun e w' h => ⟨h.1.of_no hxy, h.2⟩)))
          go_wp2
          go_roundw
          case rel => exact ⟨k + 1, by go_num, by omega, (dUnhide hdr).drewN _⟩
          case measure => simp [intOf]; omega
      · have HK9 : Hid (∀ W, Below wr.heap.size wr W → (W.cell? ⟨bx, 0, none⟩ = some (.slice sa ds.length scap) ∧ W.cell? ⟨bx, 1, none⟩ = some (.int .i64 cop)) ∧ Ns W (.slice sa ds.length scap) ds ∧ Ns W (.slice ua xs.length ucap) xs ∧ Ns W (.slice ra R.length rcap) R ∧ Below w.heap.size w W) := fun W hb => by
          obtain ⟨p1, p2, p3, p4, p5⟩ := dUnhide K W (belowThen (dUnhide hbr) hb)
          exact ⟨p1, p2, p3, (dUnhide Rr).below hb, p5⟩
        have hRx : (R.length : Int) ≤ (xs.length : Int) := by omega
        have hRsp : (spanN ds R : Int) ≤ (spanN ds xs : Int) := by have := dUnhide hRs; omega
        have hb9 : Below wr.heap.size wr wr.drew := (Below.refl _ _).drew
        have xl := spanN_le_len ds xs
        clear m1 m2 m3 Br
        go_wp2
        go_region_held3 (fun W => W.cell? ⟨bx, 0, none⟩ = some (.slice sa ds.length scap) ∧ W.cell? ⟨bx, 1, none⟩ = some (.int .i64 cop)) (go_keep)
          (first
            | (go_at_call 25; have KA := dUnhide HK9 _ hb9; refine (implNodes_any _ _ ds R cop _ KA.2.1 KA.2.2.2.1 (dUnhide HDA) (dUnhide hRa) (by omega) (by omega) (by omega) (by omega)).mono ?_; rintro e w11 ⟨h11, b11⟩; obtain rfl := h11.of_yes (dUnhide hRn); have hb11 := belowThen hb9 b11; obtain ⟨⟨p0, p1⟩, -⟩ := dUnhide HK9 _ hb11; clear h11 b11 KA)
            | (go_at_call_of 26 (Value.slice ua xs.length ucap); first | (have KA := dUnhide HK9 _ hbR; refine (implSpan_yes _ _ ds xs cop _ KA.2.1 KA.2.2.1 (dUnhide HDA) (dUnhide HXA) (by omega) (by omega) (by omega) (by omega) (dUnhide HX)).mono ?_; rintro e w13 ⟨rfl, b13⟩; have hbSS := belowThen hbR b13; obtain ⟨⟨s0, s1⟩, -⟩ := dUnhide HK9 _ hbSS; clear b13 KA) | (have KA := dUnhide HK9 _ hb11; refine (implSpan_yes _ _ ds xs cop _ KA.2.1 KA.2.2.1 (dUnhide HDA) (dUnhide HXA) (by omega) (by omega) (by omega) (by omega) (dUnhide HX)).mono ?_; rintro e w13 ⟨rfl, b13⟩; have hbS := belowThen hb11 b13; obtain ⟨⟨s0, s1⟩, -⟩ := dUnhide HK9 _ hbS; clear b13 KA))
            | (go_at_call_of 26 (Value.slice ra R.length rcap); first | (have KA := dUnhide HK9 _ hbS; refine (implSpan_yes _ _ ds R cop _ KA.2.1 KA.2.2.2.1 (dUnhide HDA) (dUnhide hRa) (by omega) (by omega) (by omega) (by omega) (dUnhide hRn)).mono ?_; rintro e w13 ⟨rfl, b13⟩; have hbRR := belowThen hbS b13; obtain ⟨⟨s0, s1⟩, -⟩ := dUnhide HK9 _ hbRR; clear b13 KA) | (have KA := dUnhide HK9 _ hb11; refine (implSpan_yes _ _ ds R cop _ KA.2.1 KA.2.2.2.1 (dUnhide HDA) (dUnhide hRa) (by omega) (by omega) (by omega) (by omega) (dUnhide hRn)).mono ?_; rintro e w13 ⟨rfl, b13⟩; have hbR := belowThen hb11 b13; obtain ⟨⟨s0, s1⟩, -⟩ := dUnhide HK9 _ hbR; clear b13 KA)))
        all_goals
          first
            | (obtain ⟨-, -, -, -, Be⟩ := dUnhide HK9 _ hbSS)
            | (obtain ⟨-, -, -, -, Be⟩ := dUnhide HK9 _ hbRR)
          go_wp2
          go_ret
          exact ⟨rfl, Be⟩
  · refine (implRest_no _ _ _ ds xs ys cop w2 m1 m2 m3 hda hxa hya (by omega) (by omega) (by omega) (by omega) (by omega) hn).mono ?_
    rintro e w3 ⟨⟨r, rfl, or3⟩, b3⟩
    have hb3 := belowThen hb2 b3
    have R3 := dHide or3.bs
    obtain ⟨-, ra, rcap, rfl, -, -⟩ := or3
    clear m1 m2 m3 b3 hb2
    obtain ⟨⟨k0, k1⟩, m1, m2, m3, -⟩ := dUnhide K w3 hb3
    have C4 := dHide (specRest_no _ _ _ ds xs ys cop w3 m1 m2 m3 hn)
    clear m1 m2 m3
    go_wp2_with fail
    refine (dUnhide C4).mono ?_
    rintro e w4 ⟨⟨q, rfl, oq4⟩, b4⟩
    have hb4 := belowThen hb3 b4
    have R4 := (dUnhide R3).below b4
    have Q4 := oq4.bs
    obtain ⟨-, qa, qcap, rfl, -, -⟩ := oq4
    have C5 := dHide (sameInts_yes _ _ [] w4 R4 Q4)
    clear C4 R3 R4 Q4 b4 hb3 k0 k1
    go_wp2_with fail
    refine (dUnhide C5).mono ?_
    rintro e w5 ⟨rfl, b5⟩
    have hb5 := belowThen hb4 b5
    clear C5 b5 hb4
    obtain ⟨⟨k0, k1⟩, m1, m2, m3, -⟩ := dUnhide K w5 hb5
    have C6 := dHide (specNodes_any _ _ ds xs cop w5 m1 m2)
    clear m1 m2 m3
    by_cases hx : nodesP ds cop xs
    · have hy : ¬ nodesP ds cop ys := fun h => hn ⟨hx, h⟩
      go_wp2_with fail
      refine (dUnhide C6).mono ?_
      rintro e w6 ⟨h6, b6⟩
      obtain rfl := h6.of_yes hx
      have hb6 := belowThen hb5 b6
      clear C6 b6 hb5 k0 k1 h6
      obtain ⟨⟨k0, k1⟩, m1, m2, m3, -⟩ := dUnhide K w6 hb6
      have C7 := dHide (specNodes_any _ _ ds ys cop w6 m1 m3)
      clear m1 m2 m3
      go_wp2_with fail
      refine (dUnhide C7).mono ?_
      rintro e w7 ⟨h7, b7⟩
      obtain rfl := h7.of_no hy
      have hb7 := belowThen hb6 b7
      obtain ⟨-, -, -, -, B7⟩ := dUnhide K w7 hb7
      clear C7 b7 hb6 k0 k1 h7 K hn hx hy
      go_wp2
      go_ret
      exact ⟨rfl, B7⟩
    · go_wp2_with fail
      refine (dUnhide C6).mono ?_
      rintro e w6 ⟨h6, b6⟩
      obtain rfl := h6.of_no hx
      have hb6 := belowThen hb5 b6
      obtain ⟨-, -, -, -, B6⟩ := dUnhide K w6 hb6
      clear C6 b6 hb5 k0 k1 h6 K hn hx
      go_wp2
      go_ret
      exact ⟨rfl, B6⟩
end Go.Proofs.Ytgedaaknkhkegaa
