/- Records as bytes: impl's ReaderPack. -/
import Derived.Test.YtioocibgfhgkhaaPiF
namespace Go.Proofs.Ytioocibgfhgkhaa
open Go.ChangeShapes Go.WideShapes Go.ChangeAt Go.RowKit
set_option linter.unusedVariables false
set_option linter.unusedSimpArgs false
set_option maxRecDepth 100000

set_option maxHeartbeats 2000000 in
theorem hasForm_any (e : Ev) (w : World) :
    Calls Try.prog 97 #[e.val] w fun r w' => RetB (evPk e) r ∧ Below w.heap.size w w' := by
  have ba : ∀ (w : World) o, Below w.heap.size w (w.alloc o) := fun w o => (Below.refl _ _).alloc (Nat.le_refl _) o
  have PD : Hid (evPk e ↔ (1 ≤ e.kind ∧ e.kind ≤ 5) ∧ 0 ≤ e.pl ∧ e.data.size ≤ 40) := Iff.rfl
  generalize evPk e = P at *
  obtain ⟨k, p, d⟩ := e
  unfold Ev.val
  simp only at *
  by_cases h1 : 1 ≤ k
  · by_cases h2 : k ≤ 5
    · by_cases h3 : 0 ≤ p
      · by_cases h4 : (d.size : Int) ≤ 40
        · have R : RetB P (.returned (.bool true)) := RetB.yes ((dUnhide PD).2 ⟨⟨h1, h2⟩, h3, by omega⟩)
          clear PD
          go_enter Try.func97, Try.ntmps97
          go_wp2
          go_ret
          exact ⟨by simpa [h1, h2, h3, h4] using R, ba _ _⟩
        · have R : RetB P (.returned (.bool false)) := RetB.no fun h => by have := ((dUnhide PD).1 h).2.2; omega
          clear PD
          go_enter Try.func97, Try.ntmps97
          go_wp2
          go_ret
          refine ⟨?_, ba _ _⟩
          first
            | exact R
            | (show RetB P (.returned (.bool (decide ((d.size : Int) ≤ 40)))); rw [decide_eq_false (by omega)]; exact R)
      · have R : RetB P (.returned (.bool false)) := RetB.no fun h => by have := ((dUnhide PD).1 h).2.1; omega
        clear PD
        go_enter Try.func97, Try.ntmps97
        go_wp2
        go_ret
        exact ⟨by simpa [h1, h2, h3] using R, ba _ _⟩
    · have R : RetB P (.returned (.bool false)) := RetB.no fun h => by have := ((dUnhide PD).1 h).1.2; omega
      clear PD
      go_enter Try.func97, Try.ntmps97
      go_wp2
      go_ret
      exact ⟨by simpa [h1, h2] using R, ba _ _⟩
  · have R : RetB P (.returned (.bool false)) := RetB.no fun h => by have := ((dUnhide PD).1 h).1.1; omega
    clear PD
    go_enter Try.func97, Try.ntmps97
    go_wp2
    go_ret
    exact ⟨by simpa [h1] using R, ba _ _⟩
set_option maxHeartbeats 2000000 in
theorem readerForm1_any (m : Rr) (a : Option Addr) (cap : Nat) (w : World) (hv : Rw 3 Ev.cl w (.slice a m.out.length cap) m.out) :
    Calls Try.prog 94 #[.agg #[.int .i64 m.epoch, .int .i64 m.off, .slice a m.out.length cap]] w fun r w' => RetB (rdPk m) r ∧ Below w.heap.size w w' := by
  have ba : ∀ (w : World) o, Below w.heap.size w (w.alloc o) := fun w o => (Below.refl _ _).alloc (Nat.le_refl _) o
  have PD : Hid (rdPk m ↔ (∀ e ∈ m.out, evPk e) ∧ rrP m) := Iff.rfl
  have CO := dHide fun W (hb : Below w.heap.size w W) => implReaderOk_any _ m W ⟨_, rfl, hv.below hb⟩
  have CE := dHide fun W (hb : Below w.heap.size w W) => everyEvent_any (.slice a m.out.length cap) m.out 97 #[] evPk W (by intro args w; rfl) (hv.below hb) fun W' hb' x hx => by simpa using hasForm_any x W'
  generalize rdPk m = P at *
  generalize rrP m = P1 at *
  generalize (∀ e ∈ m.out, evPk e) = P2 at *
  have X0 := Bx.new w [.int .i64 m.epoch, .int .i64 m.off, .slice a m.out.length cap] 67
  have B0 := ba w (.cells #[.int .i64 m.epoch, .int .i64 m.off, .slice a m.out.length cap] 67)
  clear hv ba
  go_enter Try.func94, Try.ntmps94
  go_wp2_with fail
  generalize w.alloc (.cells #[.int .i64 m.epoch, .int .i64 m.off, .slice a m.out.length cap] 67) = w0 at *
  refine (dUnhide CO _ B0).mono ?_
  rintro e w1 ⟨⟨b1, rfl, h1⟩, hb1⟩
  have B1 := belowThen B0 hb1
  have X1 := X0.below hb1
  have k2 := X1 2 _ rfl
  clear CO X0 X1 hb1 B0
  cases b1
  · have R : RetB P (.returned (.bool false)) := RetB.no fun h => by have := h1.2 ((dUnhide PD).1 h).2; cases this
    clear h1 PD CE
    go_wp2
    go_ret
    exact ⟨R, B1⟩
  · have H1 := dHide (h1.1 rfl)
    clear h1
    go_wp2_with fail
    refine (dUnhide CE _ B1).mono ?_
    rintro e w2 ⟨⟨b2, rfl, h2⟩, hb2⟩
    have R : RetB P (.returned (.bool b2)) := ⟨b2, rfl, h2.trans ⟨fun h => (dUnhide PD).2 ⟨h, dUnhide H1⟩, fun h => ((dUnhide PD).1 h).1⟩⟩
    have B2 := belowThen B1 hb2
    clear h2 PD CE H1 hb2 k2
    go_wp2
    go_ret
    exact ⟨R, B2⟩
theorem ev_take_len (es : List Ev) (h : ∀ e ∈ es, evPk e) (hl : es.length ≤ 1048576) (k : Nat) : ((es.take k).flatMap evB).length ≤ 100000000 := by
  have h1 := evsB_len (es.take k) fun e he => h e (List.mem_of_mem_take he)
  have h2 : (es.take k).length ≤ es.length := by rw [List.length_take]; omega
  omega
set_option maxHeartbeats 4000000 in
theorem implReaderPack_any (v : Value) (m : Rr) (w : World) (hv : RdReader v m w) (hfit : ∀ e ∈ m.out, e.pl ≤ 9223372036854775807) (hsz : m.out.length ≤ 1048576) :
    Calls Try.prog 31 #[v] w fun e w' => (∃ u, e = .returned (.tuple #[u, .bool (rdM m).2]) ∧ OwnX w' w.heap.size u (rdM m).1) ∧ Below w.heap.size w w' := by
  obtain ⟨sv, rfl, hs⟩ := hv
  obtain ⟨a, cap, rfl, hle⟩ := formEventS hs
  have HV := fun W (hb : Below w.heap.size w W) => RdEventS.below hs hb
  refine implReaderPack_face m a cap w fun W hW => ?_
  refine packReader_any m.epoch m.off a m.out.length cap (rdPk m) (rdM m) (rdB m) rdM_yes rdM_no W (fun W' hb' => readerForm1_any m a cap W' (HV W' (belowThen hW hb'))) fun hP W' hb' => ?_
  obtain ⟨hev, ⟨e0, e1⟩, ⟨f0, f1⟩, -⟩ := hP
  obtain ⟨n0, hn0⟩ := Int.eq_ofNat_of_zero_le (show 0 ≤ m.epoch by omega)
  obtain ⟨n1, hn1⟩ := Int.eq_ofNat_of_zero_le (show 0 ≤ m.off by omega)
  rw [hn0, hn1]
  have C := addReader_x W'.heap.size W' (.slice none 0 0) [] n0 n1 (by omega) (by omega) a cap m.out hsz (ev_take_len m.out hev hsz) (fun W2 hb2 => HV W2 (belowThen (belowThen hW hb') hb2)) (fun k hk u xs W2 hb2 ho hx hB => by
    obtain ⟨⟨⟨g0, g1⟩, g2, g3⟩⟩ := And.intro (hev _ (List.getElem_mem hk)) trivial
    have g4 := hfit _ (List.getElem_mem hk)
    generalize m.out[k] = y at *
    obtain ⟨y0, y1, y2⟩ := y
    simp only at g0 g1 g2 g3 g4 ⊢
    obtain ⟨p0, rfl⟩ := Int.eq_ofNat_of_zero_le (show 0 ≤ y0 by omega)
    obtain ⟨p1, rfl⟩ := Int.eq_ofNat_of_zero_le g2
    simpa [evB] using addEvent_x W'.heap.size W' u xs p0 p1 y2 (by omega) (by omega) (by omega) hx W2 hb2 ho hB) (by simp) W' (Below.refl _ _) (OwnX.nil _ _) (Nat.le_refl _)
  refine C.mono ?_
  rintro e w' ⟨v, rfl, O, T⟩
  refine ⟨v, rfl, ?_, T.below (by intro k hk; cases hk) (Below.refl _ _) (Nat.le_refl _)⟩
  simpa [rdB, hn0, hn1] using O
end Go.Proofs.Ytioocibgfhgkhaa
