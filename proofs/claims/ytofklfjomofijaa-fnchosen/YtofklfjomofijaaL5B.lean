/- The walk of the law FnChosen. -/
import Derived.Test.YtofklfjomofijaaChoE
import Derived.Test.YtofklfjomofijaaChoD
import Derived.Test.YtofklfjomofijaaWithN
import Derived.Test.YtofklfjomofijaaImplE
import Derived.Test.YtofklfjomofijaaImpDh
import Derived.Test.YtofklfjomofijaaBigB
import Derived.Test.YtofklfjomofijaaRowB
import Derived.Deep.RegionHeld3
import Derived.Deep.DeepCutAuto
namespace Go.Proofs.Ytofklfjomofijaa
open Go.ChangeShapes Go.WideShapes Go.ChangeAt Go.RowKit
set_option linter.unusedVariables false
set_option linter.unusedSimpArgs false

set_option maxHeartbeats 4000000 in
set_option maxRecDepth 100000 in
theorem walkFnChosen (a0 : Option Addr) (len0 cap0 : Nat) (z0 : List Int) (w : World) (w0 : IsRow .u8 w a0 len0 cap0 z0) :
    Calls Try.prog 4 #[.slice a0 len0 cap0] w fun e w' => e = .returned (.bool true) ∧ Below w.heap.size w w' := by
  have hr := row8_of w0
  have hlen := hr.1
  clear w0
  by_cases hbig : 1048576 < len0
  · have CB := dHide (big_yes a0 len0 cap0 hbig hlen)
    go_enter Try.func4, Try.ntmps4
    go_wp2_with fail
    refine (dUnhide CB _).mono ?_
    rintro e w1 ⟨rfl, rfl⟩
    go_wp2
    go_ret
    exact ⟨rfl, Below.refl _ _⟩
  have CB := dHide (big_no a0 len0 cap0 hbig)
  have CD := dHide (drawChoose_any a0 len0 cap0 w hr)
  have ha : ∀ (w : World) o, Below w.heap.size w (w.alloc o) := fun w o => (Below.refl _ _).alloc (Nat.le_refl _) o
  clear hbig hr
  go_enter Try.func4, Try.ntmps4
  go_wp2_with fail
  refine (dUnhide CB _).mono ?_
  rintro e w1 ⟨rfl, rfl⟩
  clear CB
  go_wp2_with fail
  refine (dUnhide CD).mono ?_
  rintro e w1 ⟨⟨c, u, ds, cop, xs, f, rfl, ⟨sv, rfl, o1, hdl, hda, c0, c1⟩, ⟨ox, hxl, hxa⟩, hf⟩, B1⟩
  clear CD
  have n1 := o1.bs
  have n2 := ox.bs
  obtain ⟨-, sa, scap, rfl, -, -⟩ := o1
  obtain ⟨-, ua, ucap, rfl, -, -⟩ := ox
  have ba := ha w1 (.cells #[.slice sa ds.length scap, .int .i64 cop] 31)
  have T2 := Two.new w1 (.slice sa ds.length scap) (.int .i64 cop) 31
  have HN1 := dHide (n1.below ba)
  have HN2 := dHide (n2.below ba)
  have B2 := belowThen B1 ba
  clear n1 n2 B1 ba
  go_wp2_with fail
  generalize hbx : w1.heap.size = bx at *
  generalize w1.alloc (.cells #[.slice sa ds.length scap, .int .i64 cop] 31) = w2 at *
  clear hbx
  have K : Hid (∀ W, Below w2.heap.size w2 W → (W.cell? ⟨bx, 0, none⟩ = some (.slice sa ds.length scap) ∧ W.cell? ⟨bx, 1, none⟩ = some (.int .i64 cop)) ∧ Ns W (.slice sa ds.length scap) ds ∧ Ns W (.slice ua xs.length ucap) xs ∧ Below w.heap.size w W) := fun W hb => ⟨T2.kept hb, (dUnhide HN1).below hb, (dUnhide HN2).below hb, belowThen B2 hb⟩
  clear T2 HN1 HN2 B2
  have hb2 := Below.refl w2.heap.size w2
  obtain ⟨-, m1, m2, -⟩ := dUnhide K w2 hb2
  by_cases hn : holdsP ds cop xs ∧ 0 ≤ f
  · obtain ⟨hh, hf0⟩ := hn
    obtain ⟨F, rfl⟩ := Int.eq_ofNat_of_zero_le hf0
    have hF : F ≤ 9223372036854775807 := by have := hf.2; omega
    refine (implChoose_yes _ _ ds xs cop F w2 m1 m2 hda hxa (by omega) (by omega) (by omega) (by omega) hF hh).mono ?_
    rintro e w3 ⟨⟨r, rfl, or3⟩, b3⟩
    have hb3 := belowThen hb2 b3
    have R3 := dHide or3.bs
    obtain ⟨hRh, hRs, hRl, hRp⟩ := chooseL_right (frm := F) hh
    have HRH := dHide hRh
    have HRS := dHide hRs
    have HRP := dHide hRp
    have he1 : (((chooseL ds cop xs F).length : Int) == cop) = true := by simp [hRl]
    have HRL := dHide hRl
    clear hRl
    have C4 := dHide fun W a b (h1 : Ns W a ds) (h2 : Ns W b xs) => specChoose_yes a b ds xs cop F W h1 h2 hF hh (by omega)
    obtain ⟨-, ra, rcap, rfl, -, -⟩ := or3
    have hRa : Hid (allInt (chooseL ds cop xs F)) := fun x h => hxa x (hRs x h)
    generalize chooseL ds cop xs F = R at *
    have hRn : R.length ≤ 1048576 := by have := dUnhide HRL; omega
    clear m1 m2 b3 hb2 hh hf0 hf hRh hRs hRp
    obtain ⟨⟨k0, k1⟩, m1, m2, -⟩ := dUnhide K w3 hb3
    have C4 := dHide (dUnhide C4 w3 _ _ m1 m2)
    clear m1 m2
    go_wp2_with fail
    refine (dUnhide C4).mono ?_
    rintro e w4 ⟨⟨q, rfl, oq4⟩, b4⟩
    have hb4 := belowThen hb3 b4
    have R4 := (dUnhide R3).below b4
    have HR4 := dHide R4
    have Q4 := oq4.bs
    obtain ⟨-, qa, qcap, rfl, -, -⟩ := oq4
    have C5 := dHide (sameInts_yes _ _ R w4 R4 Q4)
    clear C4 R3 R4 Q4 b4 hb3 k0 k1
    go_wp2_with fail
    refine (dUnhide C5).mono ?_
    rintro e w5 ⟨rfl, b5⟩
    have hb5 := belowThen hb4 b5
    have R5 := dHide ((dUnhide HR4).below b5)
    clear C5 b5 hb4 HR4
    go_wp2
    go_loopw [10] (fun x wr => ∃ k : Nat, x = .int .i64 (k : Int) ∧ k ≤ R.length ∧ Below w2.heap.size w2 wr ∧ Hid (Ns wr (.slice ra R.length rcap) R)) (fun x _ => R.length - (intOf x).toNat)
    case atStart => exact ⟨0, rfl, Nat.zero_le _, hb5, R5⟩
    case round =>
      obtain ⟨k, rfl, hk, hb, hR⟩ := hrel
      clear hb5 R5
      by_cases hlt : (k : Int) < (R.length : Int)
      · have hkl : k < R.length := by omega
        obtain ⟨-, a9, c9, h9, -, hu⟩ := dUnhide hR
        cases h9
        obtain ⟨g, off, rfl, hc⟩ := orN_of_lt hu (k := k) hkl
        have cg := hc k hkl
        have hin : Hid (R[k] ∈ xs) := dUnhide HRS _ (List.getElem_mem hkl)
        generalize R[k] = y at *
        obtain ⟨-, -, m2, -⟩ := dUnhide K wr hb
        have CW := dHide (within_any _ xs y wr m2)
        clear hu hc m2
        go_wp2_with fail
        refine (dUnhide CW).mono ?_
        rintro e w6 ⟨hr6, rfl⟩
        obtain rfl := hr6.of_yes (dUnhide hin)
        clear hr6 hin CW cg
        go_wp2
        go_roundw
        case rel => exact ⟨k + 1, by go_num, by omega, hb, hR⟩
        case measure => simp [intOf]; omega
      · obtain ⟨⟨k0, k1⟩, -⟩ := dUnhide K wr hb
        have hbr : Below wr.heap.size wr wr.drew := (Below.refl _ _).drew
        have CH := dHide fun W a b (h1 : Ns W a ds) (h2 : Ns W b R) => implHolds_any a b ds R cop W h1 h2 hda (dUnhide hRa) (by omega) hRn (by omega) (by omega)
        have CS := dHide fun W a b (h1 : Ns W a ds) (h2 : Ns W b R) => implSpan_yes a b ds R cop W h1 h2 hda (dUnhide hRa) (by omega) hRn (by omega) (by omega) (dUnhide HRH).1
        have he2 : (((spanN ds R : Nat) : Int) == cop) = true := by simp [dUnhide HRP]
        generalize spanN ds R = N at *
        clear hda hxa HRS HRP HRL hRa
        go_wp2_with fail
        go_region_held3 (fun W => W.cell? ⟨bx, 0, none⟩ = some (.slice sa ds.length scap) ∧ W.cell? ⟨bx, 1, none⟩ = some (.int .i64 cop)) (go_keep)
          (first
            | (go_at_call 20; refine (dUnhide CH _ _ _ (dUnhide K _ (belowThen hb hbr)).2.1 ((dUnhide hR).below hbr)).mono ?_; rintro e w7 ⟨hr7, b7⟩; obtain rfl := hr7.of_yes (dUnhide HRH); have hb7 := belowThen hbr b7; obtain ⟨⟨q0, q1⟩, -⟩ := dUnhide K _ (belowThen hb hb7))
            | (go_at_call 21; refine (dUnhide CS _ _ _ (dUnhide K _ (belowThen hb hb7)).2.1 ((dUnhide hR).below hb7)).mono ?_; rintro e w8 ⟨rfl, b8⟩; have hb8 := belowThen hb7 b8; obtain ⟨⟨q0, q1⟩, -, -, BZ⟩ := dUnhide K _ (belowThen hb hb8)))
        all_goals
          go_wp2
          go_ret
          exact ⟨rfl, BZ⟩
  · refine (implChoose_no _ _ ds xs cop f w2 m1 m2 hda hxa (by omega) (by omega) (by omega) (by omega) hf hn).mono ?_
    rintro e w3 ⟨⟨r, rfl, or3⟩, b3⟩
    have hb3 := belowThen hb2 b3
    have R3 := dHide or3.bs
    have C4 := dHide fun W a b (h1 : Ns W a ds) (h2 : Ns W b xs) => specChoose_no a b ds xs cop f W h1 h2 (by omega) hn
    obtain ⟨-, ra, rcap, rfl, -, -⟩ := or3
    clear m1 m2 b3 hb2 hn hf
    obtain ⟨⟨k0, k1⟩, m1, m2, -⟩ := dUnhide K w3 hb3
    have C4 := dHide (dUnhide C4 w3 _ _ m1 m2)
    clear m1 m2
    go_wp2_with fail
    refine (dUnhide C4).mono ?_
    rintro e w4 ⟨⟨q, rfl, oq4⟩, b4⟩
    have hb4 := belowThen hb3 b4
    have R4 := (dUnhide R3).below b4
    have Q4 := oq4.bs
    obtain ⟨-, qa, qcap, rfl, -, -⟩ := oq4
    have C5 := dHide (sameInts_yes _ _ [] w4 R4 Q4)
    clear C4 R3 R4 Q4 b4 hb3 k0 k1
    go_wp2_with fail
    refine (dUnhide C5).mono ?_
    rintro e w5 ⟨rfl, b5⟩
    have hb5 := belowThen hb4 b5
    obtain ⟨-, -, -, B⟩ := dUnhide K w5 hb5
    clear C5 b5 hb4 K
    go_wp2
    go_ret
    exact ⟨rfl, B⟩
end Go.Proofs.Ytofklfjomofijaa
