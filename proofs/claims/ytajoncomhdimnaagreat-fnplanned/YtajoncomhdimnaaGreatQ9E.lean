/- MendEntry: both answers (printed by tools/mkmne.py). -/
import Derived.Test.YtajoncomhdimnaaGreatGaD
import Derived.Test.YtajoncomhdimnaaGreatStH
import Derived.Test.YtajoncomhdimnaaGreatGaT
import Derived.Test.YtajoncomhdimnaaGreatGaA
import Derived.Test.YtajoncomhdimnaaGreatGaB
import Derived.Deep.RegionHeld3
import Derived.Deep.DeepCutAuto
namespace Go.Proofs.YtajoncomhdimnaaGreat
open Go.ChangeShapes Go.WideShapes Go.ChangeAt Go.RowKit
set_option linter.unusedVariables false
set_option linter.unusedSimpArgs false
set_option maxRecDepth 100000

def outE (m : Mn) (x : Int) : Ent := match getL m.seen x with
  | some e => ⟨x, m.bye, e.hole, e.data⟩
  | none => ⟨x, m.bye, true, ⟨#[]⟩⟩
def entOk9 (m : Mn) (off : Int) : Prop := m.planned = true ∧ (1 ≤ m.epoch ∧ m.epoch ≤ 30) ∧ (1 ≤ off ∧ off ≤ 60) ∧ off ≤ (m.wrote.length : Int)
open Classical in
noncomputable def entR (m : Mn) (off : Int) : Ent × Bool := if entOk9 m off then (outE m (4294967296 * m.epoch + off), true) else (noEnt, false)
theorem entR_yes {m : Mn} {off : Int} (h : entOk9 m off) : entR m off = (outE m (4294967296 * m.epoch + off), true) := if_pos h
theorem entR_no {m : Mn} {off : Int} (h : ¬ entOk9 m off) : entR m off = (noEnt, false) := if_neg h
theorem noEnt_val : noEnt.val = .agg #[.int .i64 0, .int .i64 0, .bool false, .string ⟨#[]⟩] := rfl
set_option maxHeartbeats 8000000 in
theorem implMendEntry_any (v : Value) (m : Mn) (off : Int) (w : World) (hv : RdMend v m w) (oko : okInt off) (oke : okInt m.epoch) :
    Calls Tryz.prog 17 #[v, .int .i64 off] w fun e w' => e = .returned (.tuple #[(entR m off).1.val, .bool (entR m off).2]) ∧ Below w.heap.size w w' := by
  have ba : ∀ (w : World) o, Below w.heap.size w (w.alloc o) := fun w o => (Below.refl _ _).alloc (Nat.le_refl _) o
  obtain ⟨sv, ev, wv, rfl, h1, h2, h3⟩ := hv
  have HE := dH fun W (hb : Below w.heap.size w W) => Rw.below h2 hb
  obtain ⟨-, sa, sc, rfl, -, -⟩ := h1
  obtain ⟨ea, ec, rfl, hl3⟩ := formEntryS h2
  obtain ⟨wa, wc, rfl, hl5⟩ := formK h3
  by_cases hp : entOk9 m off
  case neg =>
    rw [entR_no hp]
    simp only [noEnt_val]
    have hq : ¬ (m.planned = true ∧ (1 ≤ m.epoch ∧ m.epoch ≤ 30) ∧ (1 ≤ off ∧ off ≤ 60) ∧ off ≤ (m.wrote.length : Int)) := hp
    clear hp HE h2 h3
    unfold okInt at oko oke
    generalize m.bye = f0 at *
    generalize m.epoch = f1 at *
    generalize m.sealed.length = l2 at *
    generalize m.seen.length = l3 at *
    generalize m.wrote.length = l5 at *
    generalize m.planned = f4 at *
    by_cases hr : (1 ≤ f1 ∧ f1 ≤ 30) ∧ (1 ≤ off ∧ off ≤ 60)
    · have C1 : Hid (∀ W, Calls Tryz.prog 53 #[.int .i64 f1, .int .i64 off] W fun e w' => e = .returned (.tuple #[.int .i64 (4294967296 * f1 + off), .bool true]) ∧ Below W.heap.size W w') := fun W => (implMake_yes f1 off (by omega) (by omega) (by omega) (by omega) W).mono fun e w' ⟨h1, h2⟩ => ⟨by rw [h1]; congr 5; omega, by exact h2⟩
      cases f4
      · clear hq
        have X0 := (Bx.new w [.int .i64 f0, .int .i64 f1, .slice sa l2 sc, .slice ea l3 ec, .bool false, .slice wa l5 wc] 30).below (ba _ (.cells #[.int .i64 0, .int .i64 0, .bool false, .string ⟨#[]⟩] 36))
        have Y0 := BxZ.new (B := w.heap.size) (w.alloc (.cells #[.int .i64 f0, .int .i64 f1, .slice sa l2 sc, .slice ea l3 ec, .bool false, .slice wa l5 wc] 30)) [.int .i64 0, .int .i64 0, .bool false, .string ⟨#[]⟩] 36 (by simp)
        rw [show (w.alloc (.cells #[.int .i64 f0, .int .i64 f1, .slice sa l2 sc, .slice ea l3 ec, .bool false, .slice wa l5 wc] 30)).heap.size = w.heap.size + 1 from by simp] at Y0
        go_enter Tryz.func17, Tryz.ntmps17
        go_wp2_with fail
        refine (dU C1 _).mono ?_
        rintro e w1 ⟨rfl, b1⟩
        have BB := bT (bT (ba w _) (ba _ _)) b1
        have XX := X0.below b1
        have YY := Y0.below b1
        have y4 := XX 4 _ rfl
        have y5 := XX 5 _ rfl
        obtain ⟨z0, g0⟩ := YY.2 0 _ rfl
        obtain ⟨z1, g1⟩ := YY.2 1 _ rfl
        obtain ⟨z2, g2⟩ := YY.2 2 _ rfl
        obtain ⟨z3, g3⟩ := YY.2 3 _ rfl
        have RR := dH ((((YY.put 0 (.int .i64 0)).put 1 (.int .i64 0)).put 2 (.bool false)).put 3 (.string ⟨#[]⟩))
        have BF := dH ((((BB.setCell (p := ⟨w.heap.size + 1, 0, none⟩) (by simp) (.int .i64 0)).setCell (p := ⟨w.heap.size + 1, 1, none⟩) (by simp) (.int .i64 0)).setCell (p := ⟨w.heap.size + 1, 2, none⟩) (by simp) (.bool false)).setCell (p := ⟨w.heap.size + 1, 3, none⟩) (by simp) (.string ⟨#[]⟩))
        clear X0 Y0 XX YY C1 b1 BB
        go_wp2_with fail
        generalize (((w1.setCell ⟨w.heap.size + 1, 0, none⟩ (.int .i64 0)).setCell ⟨w.heap.size + 1, 1, none⟩ (.int .i64 0)).setCell ⟨w.heap.size + 1, 2, none⟩ (.bool false)).setCell ⟨w.heap.size + 1, 3, none⟩ (.string ⟨#[]⟩) = V at *
        have q0 := ((dU RR).2 0 _ rfl).1
        have q1 := ((dU RR).2 1 _ rfl).1
        have q2 := ((dU RR).2 2 _ rfl).1
        have q3 := ((dU RR).2 3 _ rfl).1
        refine bodyPost_ret (v := .tuple #[.agg #[.int .i64 0, .int .i64 0, .bool false, .string ⟨#[]⟩], .bool false]) (by simp [results, Tryz.results17, go_sem, q0, q1, q2, q3]) rfl ⟨rfl, dU BF⟩
      · have hgt : off > (l5 : Int) := by
          apply Classical.byContradiction
          intro h
          exact hq ⟨rfl, hr.1, hr.2, by omega⟩
        clear hq
        have X0 := (Bx.new w [.int .i64 f0, .int .i64 f1, .slice sa l2 sc, .slice ea l3 ec, .bool true, .slice wa l5 wc] 30).below (ba _ (.cells #[.int .i64 0, .int .i64 0, .bool false, .string ⟨#[]⟩] 36))
        have Y0 := BxZ.new (B := w.heap.size) (w.alloc (.cells #[.int .i64 f0, .int .i64 f1, .slice sa l2 sc, .slice ea l3 ec, .bool true, .slice wa l5 wc] 30)) [.int .i64 0, .int .i64 0, .bool false, .string ⟨#[]⟩] 36 (by simp)
        rw [show (w.alloc (.cells #[.int .i64 f0, .int .i64 f1, .slice sa l2 sc, .slice ea l3 ec, .bool true, .slice wa l5 wc] 30)).heap.size = w.heap.size + 1 from by simp] at Y0
        go_enter Tryz.func17, Tryz.ntmps17
        go_wp2_with fail
        refine (dU C1 _).mono ?_
        rintro e w1 ⟨rfl, b1⟩
        have BB := bT (bT (ba w _) (ba _ _)) b1
        have XX := X0.below b1
        have YY := Y0.below b1
        have y4 := XX 4 _ rfl
        have y5 := XX 5 _ rfl
        obtain ⟨z0, g0⟩ := YY.2 0 _ rfl
        obtain ⟨z1, g1⟩ := YY.2 1 _ rfl
        obtain ⟨z2, g2⟩ := YY.2 2 _ rfl
        obtain ⟨z3, g3⟩ := YY.2 3 _ rfl
        have RR := dH ((((YY.put 0 (.int .i64 0)).put 1 (.int .i64 0)).put 2 (.bool false)).put 3 (.string ⟨#[]⟩))
        have BF := dH ((((BB.setCell (p := ⟨w.heap.size + 1, 0, none⟩) (by simp) (.int .i64 0)).setCell (p := ⟨w.heap.size + 1, 1, none⟩) (by simp) (.int .i64 0)).setCell (p := ⟨w.heap.size + 1, 2, none⟩) (by simp) (.bool false)).setCell (p := ⟨w.heap.size + 1, 3, none⟩) (by simp) (.string ⟨#[]⟩))
        clear X0 Y0 XX YY C1 b1 BB
        go_wp2_with fail
        generalize (((w1.setCell ⟨w.heap.size + 1, 0, none⟩ (.int .i64 0)).setCell ⟨w.heap.size + 1, 1, none⟩ (.int .i64 0)).setCell ⟨w.heap.size + 1, 2, none⟩ (.bool false)).setCell ⟨w.heap.size + 1, 3, none⟩ (.string ⟨#[]⟩) = V at *
        have q0 := ((dU RR).2 0 _ rfl).1
        have q1 := ((dU RR).2 1 _ rfl).1
        have q2 := ((dU RR).2 2 _ rfl).1
        have q3 := ((dU RR).2 3 _ rfl).1
        refine bodyPost_ret (v := .tuple #[.agg #[.int .i64 0, .int .i64 0, .bool false, .string ⟨#[]⟩], .bool false]) (by simp [results, Tryz.results17, go_sem, q0, q1, q2, q3]) rfl ⟨rfl, dU BF⟩
    · have C1 : Hid (∀ W, Calls Tryz.prog 53 #[.int .i64 f1, .int .i64 off] W fun e w' => e = .returned (.tuple #[.int .i64 0, .bool false]) ∧ Below W.heap.size W w') := fun W => (implMake_no f1 off (by omega) W).mono fun e w' ⟨h1, h2⟩ => ⟨h1, by exact h2⟩
      clear hq hr
      cases f4
      · skip
        have X0 := (Bx.new w [.int .i64 f0, .int .i64 f1, .slice sa l2 sc, .slice ea l3 ec, .bool false, .slice wa l5 wc] 30).below (ba _ (.cells #[.int .i64 0, .int .i64 0, .bool false, .string ⟨#[]⟩] 36))
        have Y0 := BxZ.new (B := w.heap.size) (w.alloc (.cells #[.int .i64 f0, .int .i64 f1, .slice sa l2 sc, .slice ea l3 ec, .bool false, .slice wa l5 wc] 30)) [.int .i64 0, .int .i64 0, .bool false, .string ⟨#[]⟩] 36 (by simp)
        rw [show (w.alloc (.cells #[.int .i64 f0, .int .i64 f1, .slice sa l2 sc, .slice ea l3 ec, .bool false, .slice wa l5 wc] 30)).heap.size = w.heap.size + 1 from by simp] at Y0
        go_enter Tryz.func17, Tryz.ntmps17
        go_wp2_with fail
        refine (dU C1 _).mono ?_
        rintro e w1 ⟨rfl, b1⟩
        have BB := bT (bT (ba w _) (ba _ _)) b1
        have XX := X0.below b1
        have YY := Y0.below b1
        have y4 := XX 4 _ rfl
        have y5 := XX 5 _ rfl
        obtain ⟨z0, g0⟩ := YY.2 0 _ rfl
        obtain ⟨z1, g1⟩ := YY.2 1 _ rfl
        obtain ⟨z2, g2⟩ := YY.2 2 _ rfl
        obtain ⟨z3, g3⟩ := YY.2 3 _ rfl
        have RR := dH ((((YY.put 0 (.int .i64 0)).put 1 (.int .i64 0)).put 2 (.bool false)).put 3 (.string ⟨#[]⟩))
        have BF := dH ((((BB.setCell (p := ⟨w.heap.size + 1, 0, none⟩) (by simp) (.int .i64 0)).setCell (p := ⟨w.heap.size + 1, 1, none⟩) (by simp) (.int .i64 0)).setCell (p := ⟨w.heap.size + 1, 2, none⟩) (by simp) (.bool false)).setCell (p := ⟨w.heap.size + 1, 3, none⟩) (by simp) (.string ⟨#[]⟩))
        clear X0 Y0 XX YY C1 b1 BB
        go_wp2_with fail
        generalize (((w1.setCell ⟨w.heap.size + 1, 0, none⟩ (.int .i64 0)).setCell ⟨w.heap.size + 1, 1, none⟩ (.int .i64 0)).setCell ⟨w.heap.size + 1, 2, none⟩ (.bool false)).setCell ⟨w.heap.size + 1, 3, none⟩ (.string ⟨#[]⟩) = V at *
        have q0 := ((dU RR).2 0 _ rfl).1
        have q1 := ((dU RR).2 1 _ rfl).1
        have q2 := ((dU RR).2 2 _ rfl).1
        have q3 := ((dU RR).2 3 _ rfl).1
        refine bodyPost_ret (v := .tuple #[.agg #[.int .i64 0, .int .i64 0, .bool false, .string ⟨#[]⟩], .bool false]) (by simp [results, Tryz.results17, go_sem, q0, q1, q2, q3]) rfl ⟨rfl, dU BF⟩
      · skip
        have X0 := (Bx.new w [.int .i64 f0, .int .i64 f1, .slice sa l2 sc, .slice ea l3 ec, .bool true, .slice wa l5 wc] 30).below (ba _ (.cells #[.int .i64 0, .int .i64 0, .bool false, .string ⟨#[]⟩] 36))
        have Y0 := BxZ.new (B := w.heap.size) (w.alloc (.cells #[.int .i64 f0, .int .i64 f1, .slice sa l2 sc, .slice ea l3 ec, .bool true, .slice wa l5 wc] 30)) [.int .i64 0, .int .i64 0, .bool false, .string ⟨#[]⟩] 36 (by simp)
        rw [show (w.alloc (.cells #[.int .i64 f0, .int .i64 f1, .slice sa l2 sc, .slice ea l3 ec, .bool true, .slice wa l5 wc] 30)).heap.size = w.heap.size + 1 from by simp] at Y0
        go_enter Tryz.func17, Tryz.ntmps17
        go_wp2_with fail
        refine (dU C1 _).mono ?_
        rintro e w1 ⟨rfl, b1⟩
        have BB := bT (bT (ba w _) (ba _ _)) b1
        have XX := X0.below b1
        have YY := Y0.below b1
        have y4 := XX 4 _ rfl
        have y5 := XX 5 _ rfl
        obtain ⟨z0, g0⟩ := YY.2 0 _ rfl
        obtain ⟨z1, g1⟩ := YY.2 1 _ rfl
        obtain ⟨z2, g2⟩ := YY.2 2 _ rfl
        obtain ⟨z3, g3⟩ := YY.2 3 _ rfl
        have RR := dH ((((YY.put 0 (.int .i64 0)).put 1 (.int .i64 0)).put 2 (.bool false)).put 3 (.string ⟨#[]⟩))
        have BF := dH ((((BB.setCell (p := ⟨w.heap.size + 1, 0, none⟩) (by simp) (.int .i64 0)).setCell (p := ⟨w.heap.size + 1, 1, none⟩) (by simp) (.int .i64 0)).setCell (p := ⟨w.heap.size + 1, 2, none⟩) (by simp) (.bool false)).setCell (p := ⟨w.heap.size + 1, 3, none⟩) (by simp) (.string ⟨#[]⟩))
        clear X0 Y0 XX YY C1 b1 BB
        go_wp2_with fail
        generalize (((w1.setCell ⟨w.heap.size + 1, 0, none⟩ (.int .i64 0)).setCell ⟨w.heap.size + 1, 1, none⟩ (.int .i64 0)).setCell ⟨w.heap.size + 1, 2, none⟩ (.bool false)).setCell ⟨w.heap.size + 1, 3, none⟩ (.string ⟨#[]⟩) = V at *
        have q0 := ((dU RR).2 0 _ rfl).1
        have q1 := ((dU RR).2 1 _ rfl).1
        have q2 := ((dU RR).2 2 _ rfl).1
        have q3 := ((dU RR).2 3 _ rfl).1
        refine bodyPost_ret (v := .tuple #[.agg #[.int .i64 0, .int .i64 0, .bool false, .string ⟨#[]⟩], .bool false]) (by simp [results, Tryz.results17, go_sem, q0, q1, q2, q3]) rfl ⟨rfl, dU BF⟩
  rw [entR_yes hp]
  obtain ⟨hp1, ⟨hp2, hp3⟩, ⟨hp4, hp5⟩, hp6⟩ := hp
  rw [hp1]
  clear h2 h3 oko oke hp1
  generalize hby : m.bye = f0 at *
  generalize m.epoch = f1 at *
  generalize m.sealed.length = l2 at *
  have C1 : Hid (∀ W, Calls Tryz.prog 53 #[.int .i64 f1, .int .i64 off] W fun e w' => e = .returned (.tuple #[.int .i64 (4294967296 * f1 + off), .bool true]) ∧ Below W.heap.size W w') := fun W => (implMake_yes f1 off (by omega) (by omega) (by omega) (by omega) W).mono fun e w' ⟨h1, h2⟩ => ⟨by rw [h1]; congr 5; omega, by exact h2⟩
  generalize hx : 4294967296 * f1 + off = x at *
  generalize m.wrote.length = l5 at *
  clear hx hp2 hp3 hp4 hp5
  have X0 := (Bx.new w [.int .i64 f0, .int .i64 f1, .slice sa l2 sc, .slice ea m.seen.length ec, .bool true, .slice wa l5 wc] 30).below (ba _ (.cells #[.int .i64 0, .int .i64 0, .bool false, .string ⟨#[]⟩] 36))
  have Y0 := BxZ.new (B := w.heap.size) (w.alloc (.cells #[.int .i64 f0, .int .i64 f1, .slice sa l2 sc, .slice ea m.seen.length ec, .bool true, .slice wa l5 wc] 30)) [.int .i64 0, .int .i64 0, .bool false, .string ⟨#[]⟩] 36 (by simp)
  rw [show (w.alloc (.cells #[.int .i64 f0, .int .i64 f1, .slice sa l2 sc, .slice ea m.seen.length ec, .bool true, .slice wa l5 wc] 30)).heap.size = w.heap.size + 1 from by simp] at Y0
  have BB := bT (ba w (.cells #[.int .i64 f0, .int .i64 f1, .slice sa l2 sc, .slice ea m.seen.length ec, .bool true, .slice wa l5 wc] 30)) (ba _ (.cells #[.int .i64 0, .int .i64 0, .bool false, .string ⟨#[]⟩] 36))
  go_enter Tryz.func17, Tryz.ntmps17
  go_wp2_with fail
  generalize (w.alloc (.cells #[.int .i64 f0, .int .i64 f1, .slice sa l2 sc, .slice ea m.seen.length ec, .bool true, .slice wa l5 wc] 30)).alloc (.cells #[.int .i64 0, .int .i64 0, .bool false, .string ⟨#[]⟩] 36) = w0 at *
  refine (dU C1 _).mono ?_
  rintro e w1 ⟨rfl, b1⟩
  have X1 := X0.below b1
  have Y1 := Y0.below b1
  have B1 := bT BB b1
  have hlt : w.heap.size + 1 < w1.heap.size := Y1.lt
  clear X0 Y0 BB C1 b1
  have bE := ba w1 (.cells #[.int .i64 x, .int .i64 f0, .bool true, .string ⟨#[]⟩] 36)
  have E2 := BxZ.new (B := w.heap.size) w1 [.int .i64 x, .int .i64 f0, .bool true, .string ⟨#[]⟩] 36 (by omega)
  have X2 := X1.below bE
  have Y2 := Y1.below bE
  have B2 := bT B1 bE
  have y0 := X1 0 _ rfl
  have y3 := X1 3 _ rfl
  have y4 := X1 4 _ rfl
  have y5 := X1 5 _ rfl
  have y3' := X2 3 _ rfl
  have e0 := (E2.2 0 _ rfl).1
  clear X1 Y1 B1 bE
  go_wp2
  generalize hbe : w1.heap.size = eb at *
  generalize w1.alloc (.cells #[.int .i64 x, .int .i64 f0, .bool true, .string ⟨#[]⟩] 36) = w2 at *
  have hlt2 : eb < w2.heap.size := E2.lt
  clear X2 y0 y3 y4 y5 y3' e0
  go_loopw [40] (fun q wr => ∃ k : Nat, q = .int .i64 (k : Int) ∧ k ≤ m.seen.length ∧ Hid (∀ i (h : i < m.seen.length), i < k → m.seen[i].pl ≠ x) ∧ Below w2.heap.size w2 wr) (fun q _ => m.seen.length - (intOf q).toNat)
  case atStart => exact ⟨0, rfl, Nat.zero_le _, fun i h h' => by omega, Below.refl _ _⟩
  case round =>
    obtain ⟨k, rfl, hk, hinv, hb⟩ := hrel
    have hsr := hb.size
    by_cases hlk : (k : Int) < (m.seen.length : Int)
    · have hkl : k < m.seen.length := by omega
      obtain ⟨b, of, rfl, hce⟩ := (dU HE wr (bT B2 hb)).ent hkl
      obtain ⟨k0, k1, k2, k3⟩ := hce k hkl
      by_cases hpl : m.seen[k].pl = x
      · have GO : Hid (outE m x = ⟨x, m.bye, m.seen[k].hole, m.seen[k].data⟩) := by unfold outE Hid; rw [getL_some hkl hpl (fun i h h' => dU hinv i h h')]
        rw [hby] at GO
        generalize m.seen[k] = y at *
        obtain ⟨yp, yw, yh, yd⟩ := y
        simp only at *
        have hpl' := hpl.symm
        clear hpl
        subst hpl'
        have heq : (x == x) = true := by simp
        have bS := ba wr (.cells #[.int .i64 x, .int .i64 yw, .bool yh, .string yd] 36)
        have S4 := Bx.new wr [.int .i64 x, .int .i64 yw, .bool yh, .string yd] 36
        have hb4 := bT hb bS
        have E4 := E2.below hb4
        have Y4 := Y2.below hb4
        have B4 := bT B2 hb4
        have s0 := S4 0 _ rfl
        clear hinv hce bS
        go_wp2_with fail
        generalize hxb : wr.heap.size = xb at *
        generalize wr.alloc (.cells #[.int .i64 x, .int .i64 yw, .bool yh, .string yd] 36) = wx at *
        have bdr : Below wx.heap.size wx wx.drew := (Below.refl _ _).drew
        have Sd := S4.below bdr
        have Ed := E4.below bdr
        have Yd := Y4.below bdr
        have Bd := bT B4 bdr
        have p0 := And.intro (S4 2 _ rfl) (S4 3 _ rfl)
        have pd := And.intro (Sd 2 _ rfl) (Sd 3 _ rfl)
        have hne : xb ≠ eb := by omega
        have hn2 : w.heap.size + 1 ≠ eb := by omega
        have hle : w.heap.size ≤ eb := by omega
        clear E4 Y4 B4 bdr k0 k1 k2 k3 s0
        refine wp_region_noPanic ?_
        refine wp_region_held_drew (S := fun W => W.cell? ⟨xb, 2, none⟩ = some (.bool yh) ∧ W.cell? ⟨xb, 3, none⟩ = some (.string yd)) (by kernel_rfl) (by first | with_reducible exact pd | exact p0 | go_keep) (fun hHeld => ?_)
        generalize wx.drew = wd at *
        refine tY 0 (v := ?_) rfl (by kernel_rfl) (.inl ⟨by rfl, ?_⟩) ‹_› ?_
        rotate_left 1
        · intro w hSw
          (try dsimp only at hSw)
          first | (go_simp; done) | (go_simp; with_reducible rfl)
        try simp only [Act.put, sA, sB, sC]
        refine tY 1 (v := ?_) rfl (by kernel_rfl) (.inl ⟨by rfl, ?_⟩) ‹_› ?_
        rotate_left 1
        · intro w hSw
          (try dsimp only at hSw)
          first | (go_simp; done) | (go_simp; with_reducible rfl)
        try simp only [Act.put, sA, sB, sC]
        refine tY 2 (v := ?_) rfl (by kernel_rfl) (.inl ⟨by rfl, ?_⟩) ‹_› ?_
        rotate_left 1
        · intro w hSw
          (try dsimp only at hSw)
          first | (go_simp; done) | (go_simp; with_reducible rfl)
        try simp only [Act.put, sA, sB, sC]
        refine tY 3 (v := ?_) rfl (by kernel_rfl) (.inl ⟨by rfl, ?_⟩) ‹_› ?_
        rotate_left 1
        · intro w hSw
          (try dsimp only at hSw)
          first | (go_simp; done) | (go_simp; with_reducible rfl)
        try simp only [Act.put, sA, sB, sC]
        refine tY 4 (v := ?_) rfl (by kernel_rfl) (.inl ⟨by rfl, ?_⟩) ‹_› ?_
        rotate_left 1
        · intro w hSw
          (try dsimp only at hSw)
          first | (go_simp; done) | (go_simp; with_reducible rfl)
        try simp only [Act.put, sA, sB, sC]
        refine wpAnyH_ready (rs := [5]) (by kernel_rfl) (by simp) ?_
        refine rC rfl (fun K hK => ?_) AllReadyH.nil
        obtain ⟨u0, f0'⟩ := Ed.2 2 _ rfl
        go_simp
        replace Ed := Ed.put 2 (.bool yh)
        replace Yd := Yd.far (b' := eb) (o := 2) hn2 (.bool yh)
        replace Sd := Sd.farB (b' := eb) (o := 2) hne (.bool yh)
        replace Bd := Bd.setCell (p := ⟨eb, 2, none⟩) hle (.bool yh)
        clear u0 f0'
        generalize wd.setCell ⟨eb, 2, none⟩ (.bool yh) = wd at *
        have pd := And.intro (Sd 2 _ rfl) (Sd 3 _ rfl)
        (try go_wp2_with fail)
        refine hK.out _ _ (by first | with_reducible exact pd | exact p0 | go_keep) (fun hHeld => ?_)
        clear hK K
        try simp only [Act.put, sA, sB, sC]
        refine tY 6 (v := ?_) rfl (by kernel_rfl) (.inl ⟨by rfl, ?_⟩) ‹_› ?_
        rotate_left 1
        · intro w hSw
          (try dsimp only at hSw)
          first | (go_simp; done) | (go_simp; with_reducible rfl)
        try simp only [Act.put, sA, sB, sC]
        refine wpAnyH_ready (rs := [7]) (by kernel_rfl) (by simp) ?_
        refine rC rfl (fun K hK => ?_) AllReadyH.nil
        obtain ⟨u0, f0'⟩ := Ed.2 3 _ rfl
        go_simp
        replace Ed := Ed.put 3 (.string yd)
        replace Yd := Yd.far (b' := eb) (o := 3) hn2 (.string yd)
        replace Sd := Sd.farB (b' := eb) (o := 3) hne (.string yd)
        replace Bd := Bd.setCell (p := ⟨eb, 3, none⟩) hle (.string yd)
        clear u0 f0'
        generalize wd.setCell ⟨eb, 3, none⟩ (.string yd) = wd at *
        have pd := And.intro (Sd 2 _ rfl) (Sd 3 _ rfl)
        (try go_wp2_with fail)
        refine hK.out _ _ (by first | with_reducible exact pd | exact p0 | go_keep) (fun hHeld => ?_)
        clear hK K
        try simp only [Act.put, sA, sB, sC]
        refine wpAnyH_done (by kernel_rfl) ?_ _
        refine NoPanic.normal ?_
        have EF : BxZ wd w.heap.size eb [.int .i64 x, .int .i64 f0, .bool yh, .string yd] := Ed
        have RF := Yd
        have BW := Bd
        clear Ed Yd Bd Sd S4 pd p0
        obtain ⟨e0, -⟩ := EF.2 0 _ rfl
        obtain ⟨e1, -⟩ := EF.2 1 _ rfl
        obtain ⟨e2, -⟩ := EF.2 2 _ rfl
        obtain ⟨e3, -⟩ := EF.2 3 _ rfl
        obtain ⟨z0, g0⟩ := RF.2 0 _ rfl
        obtain ⟨z1, g1⟩ := RF.2 1 _ rfl
        obtain ⟨z2, g2⟩ := RF.2 2 _ rfl
        obtain ⟨z3, g3⟩ := RF.2 3 _ rfl
        have RR := dH ((((RF.put 0 (.int .i64 x)).put 1 (.int .i64 f0)).put 2 (.bool yh)).put 3 (.string yd))
        have BF := dH ((((BW.setCell (p := ⟨w.heap.size + 1, 0, none⟩) (by simp) (.int .i64 x)).setCell (p := ⟨w.heap.size + 1, 1, none⟩) (by simp) (.int .i64 f0)).setCell (p := ⟨w.heap.size + 1, 2, none⟩) (by simp) (.bool yh)).setCell (p := ⟨w.heap.size + 1, 3, none⟩) (by simp) (.string yd))
        clear EF RF BW
        go_wp2_with fail
        generalize (((wd.setCell ⟨w.heap.size + 1, 0, none⟩ (.int .i64 x)).setCell ⟨w.heap.size + 1, 1, none⟩ (.int .i64 f0)).setCell ⟨w.heap.size + 1, 2, none⟩ (.bool yh)).setCell ⟨w.heap.size + 1, 3, none⟩ (.string yd) = V at *
        have q0 := ((dU RR).2 0 _ rfl).1
        have q1 := ((dU RR).2 1 _ rfl).1
        have q2 := ((dU RR).2 2 _ rfl).1
        have q3 := ((dU RR).2 3 _ rfl).1
        refine bodyPost_ret (v := .tuple #[.agg #[.int .i64 x, .int .i64 f0, .bool yh, .string yd], .bool true]) (by simp [results, Tryz.results17, go_sem, q0, q1, q2, q3]) rfl ⟨by rw [dU GO]; rfl, dU BF⟩
      · have hno : Hid (∀ i (h : i < m.seen.length), i < k + 1 → m.seen[i].pl ≠ x) := fun i h h' => by
          rcases Nat.lt_or_ge i k with hlt' | hge
          · exact dU hinv i h hlt'
          · obtain rfl : i = k := by omega
            exact hpl
        generalize m.seen[k] = y at *
        obtain ⟨yp, yw, yh, yd⟩ := y
        simp only at *
        have heq : (yp == x) = false := by simpa using hpl
        have bS := ba wr (.cells #[.int .i64 yp, .int .i64 yw, .bool yh, .string yd] 36)
        have S4 := Bx.new wr [.int .i64 yp, .int .i64 yw, .bool yh, .string yd] 36
        have hb4 := bT hb bS
        have s0 := S4 0 _ rfl
        clear hinv hce bS S4
        go_wp2_with fail
        go_roundw
        case rel =>
          first
            | exact ⟨k + 1, by go_num, by omega, hno, hb4⟩
            | (repeat apply Exists.intro
               refine ⟨⟨show Value.int IntKind.i64 ((k : Int) + 1) = Value.int IntKind.i64 ((k + 1 : Nat) : Int) from by go_num, by omega, hno, hb4⟩, ?_⟩
               all_goals rfl)
        case measure => simp [intOf]; omega
    · have GO : Hid (outE m x = ⟨x, m.bye, true, ⟨#[]⟩⟩) := by unfold outE Hid; rw [getL_none (fun i h => dU hinv i h (by omega))]
      rw [hby] at GO
      have EF := E2.below hb
      have RF := Y2.below hb
      have BW := bT B2 hb
      clear hinv HE
      obtain ⟨e0, -⟩ := EF.2 0 _ rfl
      obtain ⟨e1, -⟩ := EF.2 1 _ rfl
      obtain ⟨e2, -⟩ := EF.2 2 _ rfl
      obtain ⟨e3, -⟩ := EF.2 3 _ rfl
      obtain ⟨z0, g0⟩ := RF.2 0 _ rfl
      obtain ⟨z1, g1⟩ := RF.2 1 _ rfl
      obtain ⟨z2, g2⟩ := RF.2 2 _ rfl
      obtain ⟨z3, g3⟩ := RF.2 3 _ rfl
      have RR := dH ((((RF.put 0 (.int .i64 x)).put 1 (.int .i64 f0)).put 2 (.bool true)).put 3 (.string ⟨#[]⟩))
      have BF := dH ((((BW.setCell (p := ⟨w.heap.size + 1, 0, none⟩) (by simp) (.int .i64 x)).setCell (p := ⟨w.heap.size + 1, 1, none⟩) (by simp) (.int .i64 f0)).setCell (p := ⟨w.heap.size + 1, 2, none⟩) (by simp) (.bool true)).setCell (p := ⟨w.heap.size + 1, 3, none⟩) (by simp) (.string ⟨#[]⟩))
      clear EF RF BW
      go_wp2_with fail
      generalize (((wr.setCell ⟨w.heap.size + 1, 0, none⟩ (.int .i64 x)).setCell ⟨w.heap.size + 1, 1, none⟩ (.int .i64 f0)).setCell ⟨w.heap.size + 1, 2, none⟩ (.bool true)).setCell ⟨w.heap.size + 1, 3, none⟩ (.string ⟨#[]⟩) = V at *
      have q0 := ((dU RR).2 0 _ rfl).1
      have q1 := ((dU RR).2 1 _ rfl).1
      have q2 := ((dU RR).2 2 _ rfl).1
      have q3 := ((dU RR).2 3 _ rfl).1
      refine bodyPost_ret (v := .tuple #[.agg #[.int .i64 x, .int .i64 f0, .bool true, .string ⟨#[]⟩], .bool true]) (by simp [results, Tryz.results17, go_sem, q0, q1, q2, q3]) rfl ⟨by rw [dU GO]; rfl, dU BF⟩
end Go.Proofs.YtajoncomhdimnaaGreat
