/- Several texts in one: ImFa, ImFd, ImFe. -/
import Derived.Test.YtognmmmplmideaaStD
import Derived.Test.YtognmmmplmideaaBuD
import Derived.Deep.LoopGhost
import Derived.BigQuiet
import Derived.Test.YtognmmmplmideaaBuH
import Derived.Deep.RegionHeld3
import Derived.Deep.DeepCutAuto
import Derived.Test.YtognmmmplmideaaBuE
namespace Go.Proofs.Ytognmmmplmideaa
open Go.ChangeShapes Go.WideShapes Go.ChangeAt Go.RowKit
set_option linter.unusedVariables false
set_option linter.unusedSimpArgs false
set_option maxRecDepth 100000

theorem place_any (e : Ent) (w : World) : Calls Try.prog 134 #[e.val] w fun r w' => r = .returned (.int .i64 e.pl) ∧ Below w.heap.size w w' := by
  obtain ⟨x, wv, ho, d⟩ := e
  unfold Ent.val
  simp only
  go_enter Try.func134, Try.ntmps134
  go_wp2
  go_ret
  exact ⟨rfl, (Below.refl _ _).alloc (Nat.le_refl _) _⟩
/-- What cmp.Compare says. -/
def cmpI (x y : Int) : Int := if x < y then -1 else if y < x then 1 else 0
theorem cmpI_neg (x y : Int) : cmpI x y < 0 ↔ x < y := by unfold cmpI; split <;> (try split) <;> omega
theorem cmpI_zero (x y : Int) : cmpI x y = 0 ↔ x = y := by unfold cmpI; split <;> (try split) <;> omega
/-- Whether the place at i is y. -/
def foundP (es : List Ent) (y : Int) (i : Nat) : Prop := ∃ h : i < es.length, es[i].pl = y
end Go.Proofs.Ytognmmmplmideaa
namespace Go.Proofs.Ytognmmmplmideaa
open Go.ChangeShapes Go.WideShapes Go.ChangeAt Go.RowKit
set_option linter.unusedVariables false
set_option linter.unusedSimpArgs false
set_option maxRecDepth 100000

theorem implEntOk_any (e : Ent) (hf : e.fits) (w : World) : Calls Try.prog 81 #[e.val] w fun r w' => RetB (entP e) r ∧ Below w.heap.size w w' := by
  by_cases h : entP e
  · exact (implEntOk_yes e hf h w).mono fun r w' ⟨h1, h2⟩ => ⟨h1 ▸ RetB.yes h, h2⟩
  · exact (implEntOk_no e hf h w).mono fun r w' ⟨h1, h2⟩ => ⟨h1 ▸ RetB.no h, h2⟩
set_option maxHeartbeats 2000000 in
theorem allOk_any (v : Value) (es : List Ent) (w : World) (hv : Rw 4 Ent.cl w v es) (hf : fitE es) :
    Calls Try.prog 70 #[v] w fun e w' => RetB (∀ e ∈ es, entP e) e ∧ Below w.heap.size w w' := by
  have HV := dHide fun W (hb : Below w.heap.size w W) => hv.below hb
  have HF := dHide hf
  obtain ⟨h0, a, cap, rfl, -, -⟩ := hv
  clear hf
  go_enter Try.func70, Try.ntmps70
  go_wp2
  go_loopw [7] (fun x wr => ∃ k : Nat, x = .int .i64 (k : Int) ∧ k ≤ es.length ∧ Hid (∀ i (h : i < es.length), i < k → entP es[i]) ∧ Below w.heap.size w wr) (fun x _ => es.length - (intOf x).toNat)
  case atStart => exact ⟨0, rfl, Nat.zero_le _, (fun i h h' => by omega), Below.refl _ _⟩
  case round =>
    obtain ⟨k, rfl, hk, hinv, hb⟩ := hrel
    by_cases hlt : (k : Int) < (es.length : Int)
    · have hkl : k < es.length := by omega
      obtain ⟨b, off, rfl, hc⟩ := (dUnhide HV wr hb).ent hkl
      obtain ⟨k0, k1, k2, k3⟩ := hc k hkl
      have CE := dHide fun W => implEntOk_any es[k] (dUnhide HF _ (List.getElem_mem hkl)) W
      have hst : Hid (entP es[k] → ∀ i (h : i < es.length), i < k + 1 → entP es[i]) := fun he i h h' => by
        rcases Nat.lt_or_ge i k with hlt' | hge
        · exact dUnhide hinv i h hlt'
        · obtain rfl : i = k := by omega
          exact he
      have hno : Hid (¬ entP es[k] → ¬ ∀ e ∈ es, entP e) := fun he h => he (h _ (List.getElem_mem hkl))
      generalize es[k] = e at *
      obtain ⟨x, wv, ho, d⟩ := e
      unfold Ent.val at CE
      simp only at *
      clear hc hinv
      go_wp2_with fail
      refine (dUnhide CE _).mono ?_
      rintro r w1 ⟨⟨bb, rfl, hbb⟩, b1⟩
      have hb1 := belowThen (hb.alloc hb.size (.cells #[.int .i64 x, .int .i64 wv, .bool ho, .string d] 66)) b1
      clear b1 CE k0 k1 k2 k3 hb
      cases bb
      · have R := dHide (dUnhide hno fun h => by have := hbb.2 h; cases this)
        clear hbb
        go_wp2
        go_ret
        exact ⟨RetB.no (dUnhide R), hb1⟩
      · have R := dHide (dUnhide hst (hbb.1 rfl))
        clear hbb
        go_wp2
        go_roundw
        case rel => exact ⟨k + 1, by go_num, by omega, R, hb1⟩
        case measure => simp [intOf]; omega
    · have hyes : Hid (∀ e ∈ es, entP e) := fun e he => by
        obtain ⟨i, hi, rfl⟩ := List.getElem_of_mem he
        exact dUnhide hinv i hi (by omega)
      clear hinv HV HF
      go_wp2
      go_ret
      exact ⟨RetB.yes (dUnhide hyes), hb⟩
set_option maxHeartbeats 4000000 in
theorem ascending_any (v : Value) (es : List Ent) (w : World) (hv : Rw 4 Ent.cl w v es) :
    Calls Try.prog 72 #[v] w fun e w' => RetB (ascE es) e ∧ Below w.heap.size w w' := by
  have HV := dHide fun W (hb : Below w.heap.size w W) => hv.below hb
  obtain ⟨h0, a, cap, rfl, -, -⟩ := hv
  go_enter Try.func72, Try.ntmps72
  go_wp2
  go_loopw [3] (fun x wr => ∃ k : Nat, x = .int .i64 ((k + 1 : Nat) : Int) ∧ (k ≤ es.length) ∧ Hid (∀ i (h : i + 1 < es.length), i < k → es[i].pl < es[i + 1].pl) ∧ Below w.heap.size w wr) (fun x _ => es.length + 1 - (intOf x).toNat)
  case atStart => exact ⟨0, rfl, Nat.zero_le _, (fun i h h' => by omega), Below.refl _ _⟩
  case round =>
    obtain ⟨k, rfl, hk, hinv, hb⟩ := hrel
    by_cases hlt : ((k + 1 : Nat) : Int) < (es.length : Int)
    · have hkl : k + 1 < es.length := by omega
      obtain ⟨b, off, rfl, hc⟩ := (dUnhide HV wr hb).ent hkl
      have EA := hc k (by omega)
      have EB := hc (k + 1) hkl
      have hst : Hid (es[k].pl < es[k + 1].pl → ∀ i (h : i + 1 < es.length), i < k + 1 → es[i].pl < es[i + 1].pl) := fun he i h h' => by
        rcases Nat.lt_or_ge i k with hlt' | hge
        · exact dUnhide hinv i h hlt'
        · obtain rfl : i = k := by omega
          exact he
      have hno : Hid (¬ es[k].pl < es[k + 1].pl → ¬ ascE es) := fun he h => he (h k hkl)
      have PA := dHide fun W => place_any es[k] W
      have PB := dHide fun W => place_any es[k + 1] W
      generalize es[k] = ea at *
      generalize es[k + 1] = eb at *
      obtain ⟨x, wv, ho, d⟩ := ea
      obtain ⟨y, wv', ho', d'⟩ := eb
      unfold Ent.val at PA PB
      simp only at *
      have HEA := dHide EA
      have HEB := dHide EB
      obtain ⟨k0, k1, k2, k3⟩ := EA
      obtain ⟨j0, j1, j2, j3⟩ := EB
      simp only at k0 k1 k2 k3 j0 j1 j2 j3
      generalize hm : k + 1 = m at *
      have HM := dHide hm
      have t1 : (0 : Int) ≤ (k : Int) := by omega
      have t2 : (k : Int) < (es.length : Int) := by omega
      have t3 : IntKind.i64.wrap ((m : Int) - 1) = (k : Int) := by rw [IntKind.wrap_i64]; omega
      have t4 : (0 : Int) ≤ (m : Int) := by omega
      clear hc hinv HV hm
      go_wp2
      go_region_held3 (fun W => W.cell? ⟨b, off + k * 4, none⟩ = some (.int .i64 x) ∧ W.cell? ⟨b, off + k * 4 + 1, none⟩ = some (.int .i64 wv) ∧ W.cell? ⟨b, off + k * 4 + 2, none⟩ = some (.bool ho) ∧ W.cell? ⟨b, off + k * 4 + 3, none⟩ = some (.string d) ∧ W.cell? ⟨b, off + m * 4, none⟩ = some (.int .i64 y) ∧ W.cell? ⟨b, off + m * 4 + 1, none⟩ = some (.int .i64 wv') ∧ W.cell? ⟨b, off + m * 4 + 2, none⟩ = some (.bool ho') ∧ W.cell? ⟨b, off + m * 4 + 3, none⟩ = some (.string d')) (first | exact ⟨q0, q1, q2, q3, r0, r1, r2, r3⟩ | exact ⟨p0, p1, p2, p3, s0, s1, s2, s3⟩ | go_keep)
        (first
          | (go_at_call 134; refine (dUnhide PA _).mono ?_; rintro e w2 ⟨rfl, b2⟩; have hb2 := belowThen hb1 b2; obtain ⟨q0, q1, q2, q3⟩ := (dUnhide HEA).below hb2; obtain ⟨r0, r1, r2, r3⟩ := (dUnhide HEB).below hb2)
          | (go_at_call 134; refine (dUnhide PB _).mono ?_; rintro e w2 ⟨rfl, b2⟩; have hb2 := belowThen hb1 b2; obtain ⟨q0, q1, q2, q3⟩ := (dUnhide HEA).below hb2; obtain ⟨r0, r1, r2, r3⟩ := (dUnhide HEB).below hb2)
          | (go_at_call 134; refine (dUnhide PA _).mono ?_; rintro e w1 ⟨rfl, b1⟩; have hb1 := belowThen (Below.refl wr.heap.size wr).drew b1; obtain ⟨p0, p1, p2, p3⟩ := (dUnhide HEA).below hb1; obtain ⟨s0, s1, s2, s3⟩ := (dUnhide HEB).below hb1)
          | (go_at_call 134; refine (dUnhide PB _).mono ?_; rintro e w1 ⟨rfl, b1⟩; have hb1 := belowThen (Below.refl wr.heap.size wr).drew b1; obtain ⟨p0, p1, p2, p3⟩ := (dUnhide HEA).below hb1; obtain ⟨s0, s1, s2, s3⟩ := (dUnhide HEB).below hb1))
      all_goals
        have BB := belowThen hb hb2
        clear hb1 b2 b1 q0 q1 q2 q3 r0 r1 r2 r3 p0 p1 p2 p3 s0 s1 s2 s3 k0 k1 k2 k3 j0 j1 j2 j3 HEA HEB PA PB hb hb2
        by_cases hxy : y ≤ x
        · have hd : decide (y ≤ x) = true := decide_eq_true hxy
          have R := dHide (dUnhide hno (by omega))
          go_wp2
          go_ret
          exact ⟨RetB.no (dUnhide R), BB⟩
        · have hd : decide (y ≤ x) = false := decide_eq_false hxy
          have R := dHide (dUnhide hst (by omega))
          go_wp2
          go_roundw
          case rel => have := dUnhide HM; subst this; exact ⟨k + 1, by go_num, by omega, R, BB⟩
          case measure => have := dUnhide HM; subst this; simp [intOf]; omega
    · have hyes : Hid (ascE es) := fun i h => dUnhide hinv i h (by omega)
      clear hinv HV
      go_wp2
      go_ret
      exact ⟨RetB.yes (dUnhide hyes), hb⟩
end Go.Proofs.Ytognmmmplmideaa
namespace Go.Proofs.Ytognmmmplmideaa
open Go.ChangeShapes Go.WideShapes Go.ChangeAt Go.RowKit
set_option linter.unusedVariables false
set_option linter.unusedSimpArgs false
set_option maxRecDepth 100000

theorem sorted_any (kv lv : Value) (sl : Int) (w : World) (ka la : Option Addr) (kn kc ln lc : Nat) (hk : kv = .slice ka kn kc) (hl : lv = .slice la ln lc) : Calls Try.prog 71 #[.agg #[kv, lv, .int .i64 sl]] w fun r w' => r = .returned kv ∧ Below w.heap.size w w' := by
  subst hk hl
  go_enter Try.func71, Try.ntmps71
  go_wp2
  go_ret
  exact ⟨rfl, (Below.refl _ _).alloc (Nat.le_refl _) _⟩
set_option maxHeartbeats 4000000 in
theorem implStoreOk_any (v : Value) (s : St) (w : World) (hv : Rs w v s) (hf : fitS s) :
    Calls Try.prog 34 #[v] w fun e w' => RetB (stP s) e ∧ Below w.heap.size w w' := by
  obtain ⟨kv, lv, rfl, hk, hl⟩ := hv
  obtain ⟨f1, f2, f3, f4⟩ := hf
  have C1 := dHide fun W (hb : Below w.heap.size w W) => allOk_any kv s.kept W (hk.below hb) f1
  have C2 := dHide fun W (hb : Below w.heap.size w W) => allOk_any lv s.late W (hl.below hb) f2
  have C3 := dHide fun W (hb : Below w.heap.size w W) => ascending_any kv s.kept W (hk.below hb)
  obtain ⟨hk0, ka, kc, rfl, -, -⟩ := hk
  obtain ⟨hl0, la, lc, rfl, -, -⟩ := hl
  have C4 := dHide fun W => sorted_any _ _ s.lock W ka la s.kept.length kc s.late.length lc rfl rfl
  have SD : Hid (stP s ↔ (s.kept.length ≤ 200 ∧ ∀ e ∈ s.kept, entP e) ∧ (s.late.length ≤ 20 ∧ ∀ e ∈ s.late, entP e) ∧ ascE s.kept ∧ 0 ≤ s.lock ∧ s.lock ≤ 30) := Iff.rfl
  generalize stP s = P at *
  generalize s.lock = sl at *
  have X0 := Bx.new w [.slice ka s.kept.length kc, .slice la s.late.length lc, .int .i64 sl] 26
  have B0 : Below w.heap.size w (w.alloc (.cells #[.slice ka s.kept.length kc, .slice la s.late.length lc, .int .i64 sl] 26)) := (Below.refl _ _).alloc (Nat.le_refl _) _
  have HX0 := dHide X0
  clear X0
  by_cases h1 : (200 : Int) < (s.kept.length : Int)
  · have R : RetB P (.returned (.bool false)) := RetB.no fun h => by have := ((dUnhide SD).1 h).1.1; omega
    have hd : decide ((200 : Int) < (s.kept.length : Int)) = true := decide_eq_true h1
    go_enter Try.func34, Try.ntmps34
    go_wp2
    go_ret
    exact ⟨R, B0⟩
  by_cases h2 : (20 : Int) < (s.late.length : Int)
  · have R : RetB P (.returned (.bool false)) := RetB.no fun h => by have := ((dUnhide SD).1 h).2.1.1; omega
    have hd1 : decide ((200 : Int) < (s.kept.length : Int)) = false := decide_eq_false h1
    have hd : decide ((20 : Int) < (s.late.length : Int)) = true := decide_eq_true h2
    go_enter Try.func34, Try.ntmps34
    go_wp2
    go_ret
    exact ⟨R, B0⟩
  have hd1 : decide ((200 : Int) < (s.kept.length : Int)) = false := decide_eq_false h1
  have hd2 : decide ((20 : Int) < (s.late.length : Int)) = false := decide_eq_false h2
  by_cases h3 : sl < 0
  · have R : RetB P (.returned (.bool false)) := RetB.no fun h => by have := ((dUnhide SD).1 h).2.2.2.1; omega
    have hd : decide (sl < 0) = true := decide_eq_true h3
    go_enter Try.func34, Try.ntmps34
    go_wp2
    go_ret
    exact ⟨R, B0⟩
  have hd3 : decide (sl < 0) = false := decide_eq_false h3
  by_cases h4 : 30 < sl
  · have R : RetB P (.returned (.bool false)) := RetB.no fun h => by have := ((dUnhide SD).1 h).2.2.2.2; omega
    have hd : decide (30 < sl) = true := decide_eq_true h4
    go_enter Try.func34, Try.ntmps34
    go_wp2
    go_ret
    exact ⟨R, B0⟩
  have hd4 : decide (30 < sl) = false := decide_eq_false h4
  have HL := dHide (show s.kept.length ≤ 200 ∧ s.late.length ≤ 20 ∧ 0 ≤ sl ∧ sl ≤ 30 by omega)
  go_enter Try.func34, Try.ntmps34
  go_wp2_with fail
  refine (dUnhide C1 _ B0).mono ?_
  rintro e w1 ⟨⟨b1, rfl, k1⟩, bl1⟩
  have B1 := belowThen B0 bl1
  have HX1 := dHide ((dUnhide HX0).below bl1)
  clear B0 bl1 HX0 C1
  have p0 := dUnhide HX1 0 _ rfl
  have p1 := dUnhide HX1 1 _ rfl
  have p2 := dUnhide HX1 2 _ rfl
  cases b1
  · have R : RetB P (.returned (.bool false)) := RetB.no fun h => by have := k1.2 ((dUnhide SD).1 h).1.2; cases this
    clear k1
    go_wp2
    go_ret
    exact ⟨R, B1⟩
  have H1 := dHide (k1.1 rfl)
  clear k1
  go_wp2_with fail
  refine (dUnhide C2 _ B1).mono ?_
  rintro e w2 ⟨⟨b2, rfl, k2⟩, bl2⟩
  have B2 := belowThen B1 bl2
  have HX2 := dHide ((dUnhide HX1).below bl2)
  clear B1 bl2 HX1 C2 p0 p1 p2
  have p0 := dUnhide HX2 0 _ rfl
  have p1 := dUnhide HX2 1 _ rfl
  have p2 := dUnhide HX2 2 _ rfl
  cases b2
  · have R : RetB P (.returned (.bool false)) := RetB.no fun h => by have := k2.2 ((dUnhide SD).1 h).2.1.2; cases this
    clear k2
    go_wp2
    go_ret
    exact ⟨R, B2⟩
  have H2 := dHide (k2.1 rfl)
  clear k2
  go_wp2_with fail
  refine (dUnhide C4 _).mono ?_
  rintro e w3 ⟨rfl, bl3⟩
  have B3 := belowThen B2 bl3
  clear B2 bl3 HX2 C4 p0 p1 p2
  go_wp2_with fail
  refine (dUnhide C3 _ B3).mono ?_
  rintro e w4 ⟨⟨b3, rfl, k3⟩, bl4⟩
  have B4 := belowThen B3 bl4
  clear B3 bl4 C3
  have R : RetB P (.returned (.bool b3)) := ⟨b3, rfl, fun h => (dUnhide SD).2 ⟨⟨(dUnhide HL).1, dUnhide H1⟩, ⟨(dUnhide HL).2.1, dUnhide H2⟩, k3.1 h, (dUnhide HL).2.2⟩, fun h => k3.2 ((dUnhide SD).1 h).2.2.1⟩
  clear k3
  go_wp2
  go_ret
  exact ⟨R, B4⟩
end Go.Proofs.Ytognmmmplmideaa
