/- Records as bytes: the register that impl's reader reads. -/
import Derived.Test.YtioocibgfhgkhaaGreatDoorPrG
namespace Go.Proofs.YtioocibgfhgkhaaGreatDoor
open Go.ChangeShapes Go.WideShapes Go.ChangeAt Go.RowKit
set_option linter.unusedVariables false
set_option linter.unusedSimpArgs false
set_option maxRecDepth 100000

set_option maxHeartbeats 4000000 in
theorem register_any (ab : Nat) (v : Value) (bs : List UInt8) (w : World) (hc : Rc w ab v 0 true) (HV : ∀ W, Wr ab (ab + 2) w W → Bs W v bs) (hl : bs.length ≤ 1048576) (hne : bs = [] ∨ blockOf v ≠ ab) :
    Calls Tryz.prog 51 #[.pointer (some ⟨ab + 1, 0, none⟩)] w fun e w' => ∃ (ua : Option Addr) (n c : Nat) (x : Int) (m : Rg), e = .returned (.agg #[.slice ua n c, .int .i64 x]) ∧ (x = m.trim ∧ n = m.eras.length ∧ NAp w' w.heap.size (.slice ua m.eras.length c) m.eras) ∧ ((rgRd bs).2.2 = true → m = rgRm bs) ∧ Rc w' ab v (rgRd bs).2.1 (rgRd bs).2.2 ∧ Wr ab (ab + 2) w w' := by
  have hab := hc.lt
  have ba : Below w.heap.size w (w.alloc (.cells #[.slice none 0 0, .int .i64 0] 29)) := (Below.refl _ _).alloc (Nat.le_refl _) _
  have Z0 := BxZ.new (B := w.heap.size) w [.slice none 0 0, .int .i64 0] 29 (Nat.le_refl _)
  have HV := dHide HV
  have CN := dHide fun q ok W (hd : Wr ab (ab + 2) w W) (hc : Rc W ab v q ok) => number_any ab v bs q ok W hc (dUnhide HV W hd) hne
  have CL := dHide fun q ok W (hd : Wr ab (ab + 2) w W) (hc : Rc W ab v q ok) (hq : q ≤ bs.length) => listOfR_any ab v bs q ok W hc (fun W' hW' => dUnhide HV W' (hd.trans hW')) hl hq hne
  have W0 := Wr.of_below (lo := ab) (hi := ab + 2) ba
  have V0 := Wr.refl ab (ab + 2) (w.alloc (.cells #[.slice none 0 0, .int .i64 0] 29))
  have hs0 : (w.alloc (.cells #[.slice none 0 0, .int .i64 0] 29)).heap.size = w.heap.size + 1 := by simp
  have C1 := dHide fun (W : World) (hd : Wr ab (ab + 2) w W) (hc : Rc W ab v 0 true) => (show Calls Tryz.prog 76 #[.pointer (some ⟨ab + 1, 0, none⟩)] W fun e w' => ∃ x : Int, e = .returned (.int .i64 x) ∧ (0 ≤ x ∧ x ≤ 9223372036854775807) ∧ ((rgRa bs).2.2 = true → x = (rgRa bs).1) ∧ Rc w' ab v (rgRa bs).2.1 (rgRa bs).2.2 ∧ Wr ab (ab + 2) W w' from dUnhide CN 0 true W hd hc)
  have la := rdN_le bs 0 true (Nat.zero_le _)
  have C3 := dHide fun (W : World) (hd : Wr ab (ab + 2) w W) (hc : Rc W ab v (rgRa bs).2.1 (rgRa bs).2.2) => (show Calls Tryz.prog 77 #[.pointer (some ⟨ab + 1, 0, none⟩), .func (.func 78) #[.pointer (some ⟨ab + 1, 0, none⟩)] #[]] W fun e w' => ∃ u xs, e = .returned u ∧ NAp w' W.heap.size u xs ∧ ((rgRd bs).2.2 = true → xs = (rgRd bs).1) ∧ Rc w' ab v (rgRd bs).2.1 (rgRd bs).2.2 ∧ Wr ab (ab + 2) W w' from dUnhide CL (rgRa bs).2.1 (rgRa bs).2.2 W hd hc la)
  have K2 : Hid ((rgRd bs).2.2 = true → (rgRa bs).2.2 = true) := fun h => rdN_was (rdErs_was h)
  have EM : Hid (rgRm bs = ⟨(rgRd bs).1, (rgRa bs).1⟩) := rfl
  generalize rgRm bs = MM at *
  generalize rgRd bs = MD at *
  generalize rgRa bs = MA at *
  have hc0 := hc.below ba
  clear CN CL hc la
  go_enter Tryz.func51, Tryz.ntmps51
  go_upto_region 1 with fail
  generalize w.alloc (.cells #[.slice none 0 0, .int .i64 0] 29) = w0 at *
  have D1 := dHide (dUnhide C1 w0 W0 hc0)
  clear C1 hc0
  go_wp2_with fail
  refine (dUnhide D1).mono ?_
  rintro e w1 ⟨x0, rfl, hb0, hx0, hc1, hw1⟩
  have W1 := W0.trans hw1
  have V1 := V0.trans hw1
  have D3 := dHide (dUnhide C3 w1 W1 hc1)
  have HX0 := dHide hx0
  have hs2 := V1.size
  clear D1 C3 hc1 hw1 hx0
  go_wp2_with fail
  refine (dUnhide D3).mono ?_
  rintro e w3 ⟨u, xs, rfl, ha, hx2, hc3, hw3⟩
  have W3 := W1.trans hw3
  have V3 := V1.trans hw3
  have HX2 := dHide hx2
  have hs3 := W3.size
  have Z3 : BxZ w3 w.heap.size w.heap.size [.slice none 0 0, .int .i64 0] := Z0.wrZ V3 hab
  obtain ⟨ua, uc, rfl⟩ := NAp.slice ha
  have HA := dHide ha
  clear D3 hx2 hw3 W1 ha
  go_wp2_with (refine wp_putW rfl _ _ _ rfl rfl [.slice ua xs.length uc, .int .i64 x0] rfl rfl Z3 rfl (by kernel_rfl) (by kernel_rfl) ?_; intro w4 Y4 s4 g4 b4)
  refine bodyPost_ret (results_box Tryz.results51 _ _ _ [.slice ua xs.length uc, .int .i64 x0] _ rfl Y4.bx Tryz.underlying29 rfl (by kernel_rfl)) rfl ⟨ua, xs.length, uc, x0, ⟨xs, x0⟩, rfl, ⟨rfl, rfl, ?_⟩, fun h => ?_, ?_, W3.new (Nat.le_refl _) g4 s4 b4⟩
  · exact NAp.mono (NAp.farO _ _ _ w3 w4 (dUnhide HA) (by rw [s4]; exact Nat.le_refl _) (fun k h1 h2 => g4 k (by omega))) (by omega)
  · have h2 := dUnhide K2 h
    rw [dUnhide EM, dUnhide HX0 h2, dUnhide HX2 h]
  · exact hc3.wr (row := some w.heap.size) ⟨b4.os, b4.tape, b4.output, by rw [s4]; exact Nat.le_refl _, fun k hk hn => g4 k (by rintro rfl; exact hn rfl)⟩ (by intro e; simp only [Option.some.injEq] at e; omega) (by intro e; simp only [Option.some.injEq] at e; omega)
end Go.Proofs.YtioocibgfhgkhaaGreatDoor
