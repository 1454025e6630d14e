/- Configs drawn: DrawConfigPack, DrawConfigRead. -/
import Derived.Test.YthndkkjgjhgdnaaDoorSpA
import Derived.Test.YthndkkjgjhgdnaaDoorDrwC
import Derived.Test.YthndkkjgjhgdnaaDoorHp1
namespace Go.Proofs.YthndkkjgjhgdnaaDoor
open Go.ChangeShapes Go.WideShapes Go.ChangeAt Go.RowKit
set_option linter.unusedVariables false
set_option linter.unusedSimpArgs false
set_option maxRecDepth 100000

/-- A drawn config. -/
def DrewCf (w' : World) (v : Value) : Prop := ∃ (sv : Value) (ds : List Int) (cop : Int), v = .agg #[sv, .int .i64 cop] ∧ Ns w' sv ds ∧ ds.length ≤ 9 ∧ allInt ds ∧ 0 ≤ cop ∧ cop ≤ 5
/-- Drawn bytes. -/
def DrewBy (w' : World) (v : Value) : Prop := ∃ bs, Bs w' v bs ∧ bs.length ≤ 1000000
set_option maxHeartbeats 8000000 in
theorem drawConfigPack_any (a : Option Addr) (len cap : Nat) (w : World) (hr : Row8 w a len) :
    Calls Tryd.prog 6 #[.slice a len cap] w fun e w' => (∃ v, e = .returned v ∧ DrewCf w' v) ∧ Below w.heap.size w w' := by
  have b0 : Below w.heap.size w (w.alloc (.cells #[.slice none 0 0, .int .i64 0] 26)) := (Below.refl _ _).alloc (Nat.le_refl _) _
  have Z0 := BxZ.new (B := w.heap.size) w [.slice none 0 0, .int .i64 0] 26 (Nat.le_refl _)
  have hz0 : w.heap.size < (w.alloc (.cells #[.slice none 0 0, .int .i64 0] 26)).heap.size := by simp
  have hr1 := hr.below b0
  clear hr
  go_enter Tryd.func6, Tryd.ntmps6
  go_wp2_with fail
  generalize w.alloc (.cells #[.slice none 0 0, .int .i64 0] 26) = w0 at *
  refine (l1New_any a len cap w0 hr1).mono ?_
  rintro e w1 ⟨bk, rfl, hbk, hc1, b1⟩
  have Z1 := Z0.below b1
  have B1 := belowThen b0 b1
  have z1 := b1.size
  clear Z0 hr1 b0 b1
  go_wp2_with fail
  refine (l4Draw_any bk w1 hc1).mono ?_
  rintro e w2 ⟨⟨sv, ds, cop, rfl, ho, hl, hd, hc0, hc5⟩, hc2, hd2⟩
  have Z2 := dHide (Z1.drawn hd2 (by omega))
  have B2 := dHide (hd2.below B1 B1.size (by omega))
  have hO : Ns w2 sv ds := ho.bs
  have hI : allInt ds := fun d h => by have := hd d h; omega
  have H2 := ho.far (b := w.heap.size) (o := 0) (by omega) sv
  have H3 := dHide ((H2.far (b := w.heap.size) (o := 1) (by omega) (.int .i64 cop)).bs)
  obtain ⟨⟨y0, f0⟩, ⟨y1, f1⟩⟩ : (_ ∧ _) ∧ (_ ∧ _) := ⟨(dUnhide Z2).2 0 _ rfl, (dUnhide Z2).2 1 _ rfl⟩
  obtain ⟨sa, sc, rfl⟩ : ∃ a c, sv = .slice a ds.length c := by obtain ⟨-, a, c, e, -⟩ := hO; exact ⟨a, c, e⟩
  have Z3 : Hid (BxZ ((w2.setCell ⟨w.heap.size, 0, none⟩ (.slice sa ds.length sc)).setCell ⟨w.heap.size, 1, none⟩ (.int .i64 cop)) w.heap.size w.heap.size [.slice sa ds.length sc, .int .i64 cop]) := ((dUnhide Z2).put 0 _).put 1 _
  have B3 := dHide (((dUnhide B2).setCell (p := ⟨w.heap.size, 0, none⟩) (Nat.le_refl _) (.slice sa ds.length sc)).setCell (p := ⟨w.heap.size, 1, none⟩) (Nat.le_refl _) (.int .i64 cop))
  clear Z1 hc1 hc2 hd2 ho hd H2 hO B1 Z2 B2
  go_wp2
  generalize ((w2.setCell ⟨w.heap.size, 0, none⟩ (.slice sa ds.length sc)).setCell ⟨w.heap.size, 1, none⟩ (.int .i64 cop)) = V at *
  have q0 := ((dUnhide Z3).2 0 _ rfl).1
  have q1 := ((dUnhide Z3).2 1 _ rfl).1
  exact bodyPost_ret (v := .agg #[.slice sa ds.length sc, .int .i64 cop]) (by simp [results, Tryd.results6, go_sem, q0, q1]) rfl ⟨⟨_, rfl, _, ds, cop, rfl, dUnhide H3, hl, hI, hc0, hc5⟩, dUnhide B3⟩
set_option maxHeartbeats 8000000 in
theorem drawConfigRead_any (a : Option Addr) (len cap : Nat) (w : World) (hr : Row8 w a len) :
    Calls Tryd.prog 11 #[.slice a len cap] w fun e w' => (∃ v, e = .returned v ∧ DrewBy w' v) ∧ Below w.heap.size w w' := by
  go_enter Tryd.func11, Tryd.ntmps11
  go_wp2_with fail
  refine (l1New_any a len cap w hr).mono ?_
  rintro e w1 ⟨bk, rfl, hbk, hc1, B1⟩
  clear hr
  go_wp2_with fail
  refine (l4DrawRight_any bk w1 hc1).mono ?_
  rintro e w2 ⟨⟨sv, ds, cop, rfl, ho, hl, hd, hc0⟩, hc2, hd2⟩
  have B2 := hd2.below B1 B1.size hbk
  have CP := dHide (specConfigPack_any sv ds cop w2 (ownN_of_row ho).bs)
  have CL : Hid ((cfgM ds cop).1.length ≤ 1000) := by
    unfold Hid
    by_cases h : cfgP ds cop
    · rw [cfgM_yes h]
      have h1 := lstB_len ds
      have h2 := numB_len cop.toNat
      simp only [cfgB, List.length_append]
      omega
    · rw [cfgM_no h]; simp
  generalize cfgM ds cop = M at *
  obtain ⟨PB, pb⟩ := M
  clear hc1 hd2 B1 ho hd
  simp only at CP CL
  go_wp2_with fail
  refine (dUnhide CP).mono ?_
  rintro e w3 ⟨⟨u, rfl, hO, -⟩, b3⟩
  have hc3 := hc2.below b3
  have B3 := belowThen B2 b3
  have CS := dHide (spoil_any bk u PB w3 hc3 hO.bs (by have := dUnhide CL; omega))
  clear hc2 B2 b3 CP hO
  go_wp2_with fail
  refine (dUnhide CS).mono ?_
  rintro e w4 ⟨⟨u4, bs4, rfl, q4, l4⟩, d4⟩
  have B4 := dHide (d4.below B3 B3.size hbk)
  have R : Hid (DrewBy w4 u4) := ⟨bs4, q4, by have := dUnhide CL; omega⟩
  clear CS q4 l4 d4 B3 hc3
  go_wp2
  go_ret
  exact ⟨⟨_, rfl, dUnhide R⟩, dUnhide B4⟩
end Go.Proofs.YthndkkjgjhgdnaaDoor
