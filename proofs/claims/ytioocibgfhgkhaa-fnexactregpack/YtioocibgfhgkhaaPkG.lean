/- Records as bytes: events that may be packed, and readers of them. -/
import Derived.Test.YtioocibgfhgkhaaPkA
import Derived.Test.YtioocibgfhgkhaaRdO
namespace Go.Proofs.Ytioocibgfhgkhaa
open Go.ChangeShapes Go.WideShapes Go.ChangeAt Go.RowKit
set_option linter.unusedVariables false
set_option linter.unusedSimpArgs false
set_option maxRecDepth 100000

/-- An event that may be packed. -/
def evPk (e : Ev) : Prop := (1 ≤ e.kind ∧ e.kind ≤ 5) ∧ 0 ≤ e.pl ∧ e.data.size ≤ 40
set_option maxHeartbeats 2000000 in
theorem specEvent17_any (e : Ev) (w : World) :
    Calls Try.prog 91 #[e.val] w fun r w' => RetB (evPk e) r ∧ Below w.heap.size w w' := by
  have ba : ∀ (w : World) o, Below w.heap.size w (w.alloc o) := fun w o => (Below.refl _ _).alloc (Nat.le_refl _) o
  have PD : Hid (evPk e ↔ (1 ≤ e.kind ∧ e.kind ≤ 5) ∧ 0 ≤ e.pl ∧ e.data.size ≤ 40) := Iff.rfl
  generalize evPk e = P at *
  obtain ⟨k, p, d⟩ := e
  unfold Ev.val
  simp only at *
  have C1 := dHide fun W => l1In_any k 1 5 W
  go_enter Try.func91, Try.ntmps91
  go_wp2_with fail
  refine (dUnhide C1 _).mono ?_
  rintro r w1 ⟨⟨b1, rfl, h1⟩, rfl⟩
  clear C1
  cases b1
  · have R : RetB P (.returned (.bool false)) := RetB.no fun h => by have := h1.2 ((dUnhide PD).1 h).1; cases this
    clear h1
    go_wp2
    go_ret
    exact ⟨R, ba _ _⟩
  have H1 := dHide (h1.1 rfl)
  clear h1
  by_cases hp : 0 ≤ p
  · by_cases hn : (d.size : Int) ≤ 40
    · have R : RetB P (.returned (.bool true)) := RetB.yes ((dUnhide PD).2 ⟨dUnhide H1, hp, by omega⟩)
      clear PD H1
      go_wp2
      go_ret
      exact ⟨by simpa [hn] using R, ba _ _⟩
    · have R : RetB P (.returned (.bool false)) := RetB.no fun h => by have := ((dUnhide PD).1 h).2.2; omega
      clear PD H1
      go_wp2
      go_ret
      refine ⟨?_, ba _ _⟩
      show RetB P (.returned (.bool (decide ((d.size : Int) ≤ 40))))
      rw [decide_eq_false (by omega)]
      exact R
  · have R : RetB P (.returned (.bool false)) := RetB.no fun h => by have := ((dUnhide PD).1 h).2.1; omega
    clear PD H1
    go_wp2
    go_ret
    exact ⟨by simpa [hp] using R, ba _ _⟩
/-- A reader that may be packed. -/
def rdPk (r : Rr) : Prop := (∀ e ∈ r.out, evPk e) ∧ rrP r
set_option maxHeartbeats 4000000 in
theorem specReader17_any (v : Value) (m : Rr) (w : World) (hv : RdReader v m w) :
    Calls Try.prog 60 #[v] w fun r w' => RetB (rdPk m) r ∧ Below w.heap.size w w' := by
  have ba : ∀ (w : World) o, Below w.heap.size w (w.alloc o) := fun w o => (Below.refl _ _).alloc (Nat.le_refl _) o
  have CR := dHide fun W (hb : Below w.heap.size w W) => specReaderOk_any v m W (hv.below hb)
  obtain ⟨sv, rfl, hs⟩ := hv
  have HV := dHide fun W (hb : Below w.heap.size w W) => RdEventS.below hs hb
  obtain ⟨a, cap, rfl, hle⟩ := formEventS hs
  have PY : Hid ((∀ e ∈ m.out, evPk e) → (rrP m ↔ rdPk m)) := fun h => ⟨fun h2 => ⟨h, h2⟩, fun h2 => h2.2⟩
  have PN : Hid (∀ i (h : i < m.out.length), ¬ evPk m.out[i] → ¬ rdPk m) := fun i h h2 h3 => h2 (h3.1 _ (List.getElem_mem h))
  generalize rdPk m = P at *
  generalize rrP m = Q at *
  generalize m.epoch = y0 at *
  generalize m.off = y1 at *
  generalize m.out = es at *
  have X0 := dHide (Bx.new w [.int .i64 y0, .int .i64 y1, .slice a es.length cap] 67)
  have B0 := ba w (.cells #[.int .i64 y0, .int .i64 y1, .slice a es.length cap] 67)
  clear hs
  go_enter Try.func60, Try.ntmps60
  go_wp2_with fail
  go_loopw [3] (fun x wr => ∃ k : Nat, x = .int .i64 (k : Int) ∧ k ≤ es.length ∧ Hid (∀ i (h : i < es.length), i < k → evPk es[i]) ∧ Hid (Bx wr w.heap.size [.int .i64 y0, .int .i64 y1, .slice a es.length cap]) ∧ Below w.heap.size w wr) (fun x _ => es.length - (intOf x).toNat)
  case atStart => exact ⟨0, rfl, Nat.zero_le _, fun i h h' => by omega, X0, B0⟩
  case round =>
    clear X0 B0
    obtain ⟨k, rfl, hk, hall, hX, hb⟩ := hrel
    obtain ⟨x0, x1, x2⟩ : _ ∧ _ ∧ _ := ⟨(dUnhide hX) 0 _ rfl, (dUnhide hX) 1 _ rfl, (dUnhide hX) 2 _ rfl⟩
    by_cases hlt : (k : Int) < (es.length : Int)
    · have hkl : k < es.length := by omega
      obtain ⟨b, off, rfl, hc⟩ := (dUnhide HV wr hb).atEv hkl
      obtain ⟨c0, c1, c2⟩ := hc k hkl
      have CE := specEvent17_any es[k] wr
      have PK := dHide (dUnhide PN k hkl)
      have HA : Hid (evPk es[k] → ∀ i (h : i < es.length), i < k + 1 → evPk es[i]) := fun hp i h hi => by
        by_cases e : i = k
        · subst e; exact hp
        · exact dUnhide hall i h (by omega)
      generalize es[k] = y at *
      obtain ⟨y3, y4, y5⟩ := y
      unfold Ev.val at CE
      simp only at *
      clear hc PN hall
      go_wp2_with fail
      refine CE.mono ?_
      rintro r w1 ⟨hr, b1⟩
      have B1 := belowThen hb b1
      have X1 := dHide ((dUnhide hX).below b1)
      clear CE hX hb b1 x0 x1 x2 c0 c1 c2
      by_cases hp : evPk ⟨y3, y4, y5⟩
      · obtain rfl := hr.of_yes hp
        have A := dHide (dUnhide HA hp)
        clear hr HA PK
        go_wp2
        go_roundw
        case rel => exact ⟨k + 1, by go_num, by omega, A, X1, B1⟩
        case measure => simp [intOf]; omega
      · obtain rfl := hr.of_no hp
        have R : RetB P (.returned (.bool false)) := RetB.no (dUnhide PK hp)
        clear hr HA PK
        go_wp2
        go_ret
        exact ⟨R, B1⟩
    · have HQ : Q ↔ P := dUnhide PY fun e he => by
        obtain ⟨i, hi, rfl⟩ := List.getElem_of_mem he
        exact dUnhide hall i hi (by omega)
      have C1 := dUnhide CR wr hb
      clear HV PN PY hall CR
      go_wp2_with fail
      refine C1.mono ?_
      rintro r w1 ⟨hr, b1⟩
      have B1 := belowThen hb b1
      clear C1 hX hb b1 x0 x1 x2
      by_cases hp : Q
      · obtain rfl := hr.of_yes hp
        have R : RetB P (.returned (.bool true)) := RetB.yes (HQ.1 hp)
        clear hr
        go_wp2
        go_ret
        exact ⟨R, B1⟩
      · obtain rfl := hr.of_no hp
        have R : RetB P (.returned (.bool false)) := RetB.no fun h => hp (HQ.2 h)
        clear hr
        go_wp2
        go_ret
        exact ⟨R, B1⟩
end Go.Proofs.Ytioocibgfhgkhaa
