/- spec.WriterAck (printed by tools/mkwrr.py). -/
import Derived.Test.YthndkkjgjhgdnaaGreatDoorGk82
import Derived.Test.YthndkkjgjhgdnaaGreatDoorGk81
import Derived.Deep.RegionHeld3
import Derived.Deep.DeepCutAuto
namespace Go.Proofs.YthndkkjgjhgdnaaGreatDoor
open Go.ChangeShapes Go.WideShapes Go.ChangeAt Go.RowKit
set_option linter.unusedVariables false
set_option linter.unusedSimpArgs false
set_option maxRecDepth 100000

/-- The word at an offset. -/
def atW (ms : List Wd) (k : Nat) : Wd := ms.getD k ⟨⟨#[]⟩, [], true⟩
/-- When WriterAck does. -/
def ackP (ds : List Int) (ms : List Wd) (off node : Int) : Prop := (1 ≤ off ∧ off ≤ (ms.length : Int)) ∧ (0 ≤ node ∧ node ≤ (ds.length : Int) - 1) ∧ (atW ms (off.toNat - 1)).done = false
open Classical in
/-- A word of which a node told. -/
noncomputable def ackW (ds : List Int) (cop : Int) (node : Int) (e : Wd) : Wd := ⟨e.data, putL node e.acks, decide (holdsP ds cop (putL node e.acks))⟩
theorem ackW_eq {ds : List Int} {cop node : Int} {e : Wd} {b : Bool} (h : b = true ↔ holdsP ds cop (putL node e.acks)) : ackW ds cop node e = ⟨e.data, putL node e.acks, b⟩ := by
  unfold ackW
  congr 1
  cases b with
  | true => exact @decide_eq_true _ (Classical.propDecidable _) (h.1 rfl)
  | false => exact @decide_eq_false _ (Classical.propDecidable _) fun hh => by have := h.2 hh; cases this
/-- A writer one word of which a node told. -/
noncomputable def ackL (ds : List Int) (cop : Int) (m : Wt) (off node : Int) : Wt := ⟨m.epoch, m.words.set (off.toNat - 1) (ackW ds cop node (atW m.words (off.toNat - 1)))⟩
open Classical in
/-- WriterAck. -/
noncomputable def ackM (ds : List Int) (cop : Int) (m : Wt) (off node : Int) : Wt × Bool := if wrP ds cop m then (if ackP ds m.words off node then (ackL ds cop m off node, true) else (m, false)) else (zeroWt, false)
theorem ackM_bad {ds : List Int} {cop : Int} {m : Wt} {off node : Int} (h : ¬ wrP ds cop m) : ackM ds cop m off node = (zeroWt, false) := if_neg h
theorem ackM_no {ds : List Int} {cop : Int} {m : Wt} {off node : Int} (h : wrP ds cop m) (hp : ¬ ackP ds m.words off node) : ackM ds cop m off node = (m, false) := (if_pos h).trans (if_neg hp)
theorem ackM_yes {ds : List Int} {cop : Int} {m : Wt} {off node : Int} (h : wrP ds cop m) (hp : ackP ds m.words off node) : ackM ds cop m off node = (ackL ds cop m off node, true) := (if_pos h).trans (if_pos hp)
set_option maxHeartbeats 8000000 in
theorem specAck_any (cv v : Value) (c : List Int × Int) (m : Wt) (off node : Int) (w : World) (hc : RdConfig cv c w) (hv : RdWriter v m w) (hs : sizWriter m ≤ 1048576) (oko : okInt off) (hsc : c.1.length ≤ 1048576) :
    Calls Tryz.prog 77 #[cv, v, .int .i64 off, .int .i64 node] w fun e w' => (∃ u, e = .returned (.tuple #[.agg #[.int .i64 (ackM c.1 c.2 m off node).1.epoch, u], .bool (ackM c.1 c.2 m off node).2]) ∧ WAp w' w.heap.size u (ackM c.1 c.2 m off node).1.words) ∧ Below w.heap.size w w' := by
  have HRW := dHide fun W (hb : Below w.heap.size w W) => hv.below hb
  have HCW := dHide fun W (hb : Below w.heap.size w W) => hc.below hb
  have CO := dHide fun W (hb : Below w.heap.size w W) => specWriterOk_any cv v c m W (hc.below hb) (hv.below hb) (by omega)
  have CP := dHide fun W (hb : Below w.heap.size w W) => l8Copy_any v m W (hv.below hb) (by omega)
  obtain ⟨ds, cop⟩ := c
  obtain ⟨sc, rfl, hc⟩ := hc
  obtain ⟨a, cap, rfl, hl0⟩ := formWriter hv
  have hle : m.words.length ≤ 1048576 := by unfold sizWriter sizWordS at hs; omega
  have HL : Hid (∀ k (hk : k < m.words.length), m.words[k].acks.length ≤ 1048576) := fun k hk => by
    have h1 := sumW_mem (ms := m.words) hk
    unfold sizWriter sizWordS at hs
    omega
  simp only at *
  obtain ⟨-, ca, cc, rfl, -, -⟩ := hc
  clear hv
  have ba : ∀ (w : World) o, Below w.heap.size w (w.alloc o) := fun w o => (Below.refl _ _).alloc (Nat.le_refl _) o
  have B0 := belowThen (belowThen (ba w (.cells #[.slice ca ds.length cc, .int .i64 cop] 26)) (ba _ (.cells #[.int .i64 m.epoch, .slice a m.words.length cap] 40))) (ba _ (.cells #[.int .i64 0, .slice none 0 0] 40))
  have X0 := dHide ((Bx.new w [.slice ca ds.length cc, .int .i64 cop] 26).below (belowThen (ba _ (.cells #[.int .i64 m.epoch, .slice a m.words.length cap] 40)) (ba _ (.cells #[.int .i64 0, .slice none 0 0] 40))))
  have Y0 := (Bx.new (w.alloc (.cells #[.slice ca ds.length cc, .int .i64 cop] 26)) [.int .i64 m.epoch, .slice a m.words.length cap] 40).below (ba _ (.cells #[.int .i64 0, .slice none 0 0] 40))
  have Z0 := BxZ.new (B := w.heap.size) ((w.alloc (.cells #[.slice ca ds.length cc, .int .i64 cop] 26)).alloc (.cells #[.int .i64 m.epoch, .slice a m.words.length cap] 40)) [.int .i64 0, .slice none 0 0] 40 (by simp <;> omega)
  have e1 : (w.alloc (.cells #[.slice ca ds.length cc, .int .i64 cop] 26)).heap.size = w.heap.size + 1 := by simp
  have e2 : ((w.alloc (.cells #[.slice ca ds.length cc, .int .i64 cop] 26)).alloc (.cells #[.int .i64 m.epoch, .slice a m.words.length cap] 40)).heap.size = w.heap.size + 1 + 1 := by simp
  rw [e1] at Y0
  rw [e2] at Z0
  replace Y0 := dHide Y0
  replace Z0 := dHide Z0
  clear e1 e2
  have hsz0 : Hid (w.heap.size + 1 + 1 + 1 = (((w.alloc (.cells #[.slice ca ds.length cc, .int .i64 cop] 26)).alloc (.cells #[.int .i64 m.epoch, .slice a m.words.length cap] 40)).alloc (.cells #[.int .i64 0, .slice none 0 0] 40)).heap.size) := by simp [Hid]
  have RB : Hid (¬ wrP ds cop m → ackM ds cop m off node = (zeroWt, false)) := ackM_bad
  have RN : Hid (wrP ds cop m → ¬ ackP ds m.words off node → ackM ds cop m off node = (m, false)) := ackM_no
  have RY : Hid (wrP ds cop m → ackP ds m.words off node → ackM ds cop m off node = (ackL ds cop m off node, true)) := ackM_yes
  generalize ackM ds cop m off node = AM at *
  go_enter Tryz.func77, Tryz.ntmps77
  go_wp2_with fail
  generalize ((w.alloc (.cells #[.slice ca ds.length cc, .int .i64 cop] 26)).alloc (.cells #[.int .i64 m.epoch, .slice a m.words.length cap] 40)).alloc (.cells #[.int .i64 0, .slice none 0 0] 40) = w0 at *
  refine (dUnhide CO _ B0).mono ?_
  rintro e w1 ⟨⟨b1, rfl, h1⟩, bl1⟩
  have B1 := belowThen B0 bl1
  have X1 := dHide ((dUnhide X0).below bl1)
  have Y1 := dHide ((dUnhide Y0).below bl1)
  have Z1 := dHide ((dUnhide Z0).below bl1)
  have s1 := bl1.size
  clear X0 Y0 Z0 B0 bl1 CO
  cases b1
  · have e := dUnhide RB fun h => by have := h1.2 h; cases this
    subst e
    obtain ⟨z0, f0⟩ := (dUnhide Z1).2 0 _ rfl
    obtain ⟨z1, f1⟩ := (dUnhide Z1).2 1 _ rfl
    have ZZ := dHide (((dUnhide Z1).put 0 (.int .i64 0)).put 1 (.slice none 0 0))
    have BB := dHide ((B1.setCell (p := ⟨w.heap.size + 1 + 1, 0, none⟩) (by simp only; omega) (.int .i64 0)).setCell (p := ⟨w.heap.size + 1 + 1, 1, none⟩) (by simp only; omega) (.slice none 0 0))
    clear h1 RB RN RY CP Y1
    go_wp2_with fail
    generalize (w1.setCell ⟨w.heap.size + 1 + 1, 0, none⟩ (.int .i64 0)).setCell ⟨w.heap.size + 1 + 1, 1, none⟩ (.slice none 0 0) = V at *
    have q0 := ((dUnhide ZZ).2 0 _ rfl).1
    have q1 := ((dUnhide ZZ).2 1 _ rfl).1
    refine bodyPost_ret (v := .tuple #[.agg #[.int .i64 0, .slice none 0 0], .bool false]) (by simp [results, Tryz.results77, go_sem, q0, q1]) rfl ⟨⟨_, rfl, WAp.nil V w.heap.size none⟩, dUnhide BB⟩
  have HP := dHide (h1.1 rfl)
  replace RN := dHide (dUnhide RN (h1.1 rfl))
  replace RY := dHide (dUnhide RY (h1.1 rfl))
  clear RB h1
  have y0 := dUnhide Y1 0 _ rfl
  have y1 := dUnhide Y1 1 _ rfl
  have CP1 := dHide (dUnhide CP _ B1)
  go_wp2_with fail
  refine (dUnhide CP1).mono ?_
  rintro e w2 ⟨⟨u2, rfl, N2⟩, b2⟩
  obtain ⟨ua, uc, rfl⟩ := N2.slice
  have B2 := belowThen B1 b2
  have s2 := b2.size
  have X2 := dHide ((dUnhide X1).below b2)
  have Y2 := dHide ((dUnhide Y1).below b2)
  have Z2 := dHide ((dUnhide Z1).below b2)
  clear X1 Y1 Z1 B1 b2 CP1 CP y0 y1
  have hw1 : w.heap.size + 3 ≤ w1.heap.size := by have := dUnhide hsz0; omega
  have bA := ba w2 (.cells #[.int .i64 m.epoch, .slice ua m.words.length uc] 40)
  have O3 := dHide (BxZ.new (B := w.heap.size) w2 [.int .i64 m.epoch, .slice ua m.words.length uc] 40 (by omega))
  have X3 := dHide ((dUnhide X2).below bA)
  have Y3 := dHide ((dUnhide Y2).below bA)
  have Z3 := dHide ((dUnhide Z2).below bA)
  have B3 := belowThen B2 bA
  have tv : Hid (∀ j, touch (.slice ua m.words.length uc) = some j → w1.heap.size ≤ j ∧ j < w2.heap.size) := fun j hj => N2.touched hj
  obtain ⟨r0, m1, P2⟩ := N2.ps
  have ob : Hid (∀ p ∈ r0, p.m.acks = [] ∨ blockOf (Sv Wd.acks p) ≠ w2.heap.size) := fun p hp => by
    rcases (P2.2.1 p hp).bs.lt with h | h
    · exact .inl h
    · exact .inr (by omega)
  have P3 := dHide (P2.below bA)
  have M1 := dHide m1
  have N3 := dHide (N2.below bA)
  have hs3 : w2.heap.size < (w2.alloc (.cells #[.int .i64 m.epoch, .slice ua m.words.length uc] 40)).heap.size := by simp
  have tn : Hid (touch (.slice ua m.words.length uc) ≠ some w2.heap.size) := fun e => by have := dUnhide tv _ e; omega
  clear N2 P2 m1 Z2 X2 Y2 B2 tv
  have y1' := dUnhide Y3 1 _ rfl
  have x0' := dUnhide X3 0 _ rfl
  have OUT : Hid (∀ W, Below (w2.alloc (.cells #[.int .i64 m.epoch, .slice ua m.words.length uc] 40)).heap.size (w2.alloc (.cells #[.int .i64 m.epoch, .slice ua m.words.length uc] 40)) W → (BxZ W w.heap.size w2.heap.size [.int .i64 m.epoch, .slice ua m.words.length uc] ∧ BxZ W w.heap.size (w.heap.size + 1 + 1) [.int .i64 0, .slice none 0 0]) ∧ WAp W w1.heap.size (.slice ua m.words.length uc) m.words) := fun W hb => ⟨⟨(dUnhide O3).below hb, (dUnhide Z3).below hb⟩, (dUnhide N3).below hb⟩
  have PN : Hid (ackP ds m.words off node ↔ (1 ≤ off ∧ off ≤ (m.words.length : Int)) ∧ (0 ≤ node ∧ node ≤ (ds.length : Int) - 1) ∧ (atW m.words (off.toNat - 1)).done = false) := Iff.rfl
  go_wp2_with fail
  generalize hob : w2.heap.size = eb at *
  generalize w2.alloc (.cells #[.int .i64 m.epoch, .slice ua m.words.length uc] 40) = w3 at *
  by_cases hoff' : ¬ (1 ≤ off ∧ off ≤ (m.words.length : Int))
  · refine (l1In_no off 1 (m.words.length : Int) (by omega) _).mono ?_
    rintro e w4 ⟨rfl, rfl⟩
    have HNO := dHide (show ¬ ackP ds m.words off node from fun h => hoff' h.1)
    clear hoff' y1' x0'
    obtain ⟨⟨O4, Z4⟩, N4⟩ := dUnhide OUT w4 (Below.refl _ _)
    have e := dUnhide RN (dUnhide HNO)
    subst e
    have B4 := belowThen B3 (Below.refl _ _)
    obtain ⟨p0, -⟩ := O4.2 0 _ rfl
    obtain ⟨p1, -⟩ := O4.2 1 _ rfl
    obtain ⟨z0, f0⟩ := Z4.2 0 _ rfl
    obtain ⟨z1, f1⟩ := Z4.2 1 _ rfl
    have ZZ := dHide ((Z4.put 0 (.int .i64 m.epoch)).put 1 (.slice ua m.words.length uc))
    have BB := dHide ((B4.setCell (p := ⟨w.heap.size + 1 + 1, 0, none⟩) (by simp only; omega) (.int .i64 m.epoch)).setCell (p := ⟨w.heap.size + 1 + 1, 1, none⟩) (by simp only; omega) (.slice ua m.words.length uc))
    have NV := dHide ((N4.far (b := w.heap.size + 1 + 1) (o := 0) (by omega) (.int .i64 m.epoch)).far (b := w.heap.size + 1 + 1) (o := 1) (by omega) (.slice ua m.words.length uc))
    clear O4 Z4 N4 B4 OUT RN RY
    go_wp2_with fail
    generalize (World.setCell w4 ⟨w.heap.size + 1 + 1, 0, none⟩ (.int .i64 m.epoch)).setCell ⟨w.heap.size + 1 + 1, 1, none⟩ (.slice ua m.words.length uc) = V at *
    have q0 := ((dUnhide ZZ).2 0 _ rfl).1
    have q1 := ((dUnhide ZZ).2 1 _ rfl).1
    refine bodyPost_ret (v := .tuple #[.agg #[.int .i64 m.epoch, .slice ua m.words.length uc], .bool false]) (by simp [results, Tryz.results77, go_sem, q0, q1]) rfl ⟨⟨_, rfl, (dUnhide NV).mono (by omega)⟩, dUnhide BB⟩
  have hoff : 1 ≤ off ∧ off ≤ (m.words.length : Int) := Classical.not_not.1 hoff'
  clear hoff'
  refine (l1In_yes off 1 (m.words.length : Int) hoff.1 hoff.2 _).mono ?_
  rintro e w4 ⟨rfl, rfl⟩
  have hds1 : IntKind.i64.wrap ((ds.length : Int) - 1) = (ds.length : Int) - 1 := by rw [IntKind.wrap_i64]; omega
  by_cases hnode' : ¬ (0 ≤ node ∧ node ≤ (ds.length : Int) - 1)
  · have CI := dHide fun W => l1In_no node 0 ((ds.length : Int) - 1) (by omega) W
    go_wp2_with fail
    refine (dUnhide CI _).mono ?_
    rintro e w5 ⟨rfl, rfl⟩
    have HNO := dHide (show ¬ ackP ds m.words off node from fun h => hnode' h.2.1)
    clear hnode' y1' x0' CI
    obtain ⟨⟨O4, Z4⟩, N4⟩ := dUnhide OUT w5 (Below.refl _ _)
    have e := dUnhide RN (dUnhide HNO)
    subst e
    have B4 := belowThen B3 (Below.refl _ _)
    obtain ⟨p0, -⟩ := O4.2 0 _ rfl
    obtain ⟨p1, -⟩ := O4.2 1 _ rfl
    obtain ⟨z0, f0⟩ := Z4.2 0 _ rfl
    obtain ⟨z1, f1⟩ := Z4.2 1 _ rfl
    have ZZ := dHide ((Z4.put 0 (.int .i64 m.epoch)).put 1 (.slice ua m.words.length uc))
    have BB := dHide ((B4.setCell (p := ⟨w.heap.size + 1 + 1, 0, none⟩) (by simp only; omega) (.int .i64 m.epoch)).setCell (p := ⟨w.heap.size + 1 + 1, 1, none⟩) (by simp only; omega) (.slice ua m.words.length uc))
    have NV := dHide ((N4.far (b := w.heap.size + 1 + 1) (o := 0) (by omega) (.int .i64 m.epoch)).far (b := w.heap.size + 1 + 1) (o := 1) (by omega) (.slice ua m.words.length uc))
    clear O4 Z4 N4 B4 OUT RN RY
    go_wp2_with fail
    generalize (World.setCell w5 ⟨w.heap.size + 1 + 1, 0, none⟩ (.int .i64 m.epoch)).setCell ⟨w.heap.size + 1 + 1, 1, none⟩ (.slice ua m.words.length uc) = V at *
    have q0 := ((dUnhide ZZ).2 0 _ rfl).1
    have q1 := ((dUnhide ZZ).2 1 _ rfl).1
    refine bodyPost_ret (v := .tuple #[.agg #[.int .i64 m.epoch, .slice ua m.words.length uc], .bool false]) (by simp [results, Tryz.results77, go_sem, q0, q1]) rfl ⟨⟨_, rfl, (dUnhide NV).mono (by omega)⟩, dUnhide BB⟩
  have hnode : 0 ≤ node ∧ node ≤ (ds.length : Int) - 1 := Classical.not_not.1 hnode'
  clear hnode'
  obtain ⟨k, rfl⟩ : ∃ k : Nat, off = (k : Int) + 1 := ⟨(off - 1).toNat, by omega⟩
  have hkm : k < m.words.length := by omega
  have ek : ((k : Int) + 1).toNat - 1 = k := by omega
  have CI := dHide fun W => l1In_yes node 0 ((ds.length : Int) - 1) hnode.1 hnode.2 W
  have hwk : IntKind.i64.wrap (k : Int) = (k : Int) := by rw [IntKind.wrap_i64]; omega
  have hkl' : (k : Int) < (m.words.length : Int) := by omega
  have eat : atW m.words k = m.words[k] := getD_lt _ hkm
  obtain ⟨rv, eV, ra, hra, hrr, -⟩ := dUnhide HRW _ B3
  cases eV
  have lra : ra.length = m.words.length := by rw [← hra, List.length_map]
  obtain ⟨vb, voff, rfl, hce⟩ := hrr.word (show k < ra.length by omega)
  have c2 := (hce k (by omega)).2.2
  have er : ra[k].m = m.words[k] := by simp only [← hra, List.getElem_map]
  rw [er] at c2
  clear hce hrr hra er
  cases hd : m.words[k].done with
  | true =>
    rw [hd] at c2
    have HNO := dHide (show ¬ ackP ds m.words ((k : Int) + 1) node from fun h => by have := h.2.2; rw [ek, eat, hd] at this; cases this)
    clear hd
    go_wp2_with fail
    refine (dUnhide CI _).mono ?_
    rintro e w5 ⟨rfl, rfl⟩
    have hb5 := Below.refl w5.heap.size w5
    clear CI
    obtain ⟨⟨O4, Z4⟩, N4⟩ := dUnhide OUT w5 hb5
    have e := dUnhide RN (dUnhide HNO)
    subst e
    have B4 := belowThen B3 hb5
    obtain ⟨p0, -⟩ := O4.2 0 _ rfl
    obtain ⟨p1, -⟩ := O4.2 1 _ rfl
    obtain ⟨z0, f0⟩ := Z4.2 0 _ rfl
    obtain ⟨z1, f1⟩ := Z4.2 1 _ rfl
    have ZZ := dHide ((Z4.put 0 (.int .i64 m.epoch)).put 1 (.slice ua m.words.length uc))
    have BB := dHide ((B4.setCell (p := ⟨w.heap.size + 1 + 1, 0, none⟩) (by simp only; omega) (.int .i64 m.epoch)).setCell (p := ⟨w.heap.size + 1 + 1, 1, none⟩) (by simp only; omega) (.slice ua m.words.length uc))
    have NV := dHide ((N4.far (b := w.heap.size + 1 + 1) (o := 0) (by omega) (.int .i64 m.epoch)).far (b := w.heap.size + 1 + 1) (o := 1) (by omega) (.slice ua m.words.length uc))
    clear O4 Z4 N4 B4 OUT RN RY
    go_wp2_with fail
    generalize (World.setCell w5 ⟨w.heap.size + 1 + 1, 0, none⟩ (.int .i64 m.epoch)).setCell ⟨w.heap.size + 1 + 1, 1, none⟩ (.slice ua m.words.length uc) = V at *
    have q0 := ((dUnhide ZZ).2 0 _ rfl).1
    have q1 := ((dUnhide ZZ).2 1 _ rfl).1
    refine bodyPost_ret (v := .tuple #[.agg #[.int .i64 m.epoch, .slice ua m.words.length uc], .bool false]) (by simp [results, Tryz.results77, go_sem, q0, q1]) rfl ⟨⟨_, rfl, (dUnhide NV).mono (by omega)⟩, dUnhide BB⟩
  | false =>
    rw [hd] at c2
    have e := dUnhide RY (show ackP ds m.words ((k : Int) + 1) node from ⟨⟨by omega, by omega⟩, hnode, by rw [ek, eat, hd]⟩)
    subst e
    have eL : (ackL ds cop m ((k : Int) + 1) node).words = m.words.set k (ackW ds cop node m.words[k]) := by unfold ackL; simp only [ek, eat]
    have HEL := dHide eL
    obtain ⟨g, cap', eg, hcg, hgb, hgl, htg⟩ := (dUnhide P3).head (by have := dUnhide M1; rw [← this, List.length_map] at hkm; omega)
    have hrl : r0.length = m.words.length := by rw [← dUnhide M1, List.length_map]
    simp only [Value.slice.injEq] at eg
    obtain ⟨rfl, -, rfl⟩ := eg
    have hgne : g ≠ eb := fun e => dUnhide tn (by rw [htg, e])
    have hk0 : k < r0.length := by omega
    obtain ⟨⟨-, d1, d2⟩, fz1, fz2⟩ := (dUnhide P3).cells hk0
    have erk : r0[k].m = m.words[k] := by simp only [← dUnhide M1, List.getElem_map]
    have hlk : r0[k].m.acks.length ≤ 1048576 := by rw [erk]; exact dUnhide HL k hkm
    have hlist := (dUnhide P3).2.1 _ (List.getElem_mem hk0)
    clear OUT RN RY N3 eL eat ek hd
    go_wp2_with fail
    refine (dUnhide CI _).mono ?_
    rintro e w5 ⟨rfl, rfl⟩
    clear CI
    obtain ⟨⟨ya, yc, yd, yn, yb⟩, hy⟩ : ∃ y, r0[k] = y := ⟨_, rfl⟩
    rw [hy] at d1 d2 hlk hlist erk
    unfold Sv at hlist
    simp only at d1 d2 hlk hlist erk
    have bd : Below w5.heap.size w5 w5.drew := (Below.refl _ _).drew
    have CPut := dHide (l4Put_all _ yn node w5.drew (hlist.bs.below bd) (by omega))
    have U : Hid (∀ (w6 : World) (qa : Option Addr) (qc : Nat), Below w5.heap.size w5 w6 → OwnN w6 w5.heap.size (.slice qa (putL node yn).length qc) (putL node yn) → WPs (w6.setCell ⟨g, k * 3 + 1, none⟩ (.slice qa (putL node yn).length qc)) w1.heap.size (.slice (some ⟨g, 0, none⟩) m.words.length uc) (r0.set k ⟨qa, qc, ⟨yd, putL node yn, yb⟩⟩)) := fun w6 qa qc hB hO =>
      (dUnhide P3).upd hk0 (grownBy_of_below hB) (.inl rfl) ⟨qa, qc, ⟨yd, putL node yn, yb⟩⟩ (hO.mono (by omega)) (by
        rcases hO.ge with h | h
        · exact .inl h
        · exact .inr (.inr h)) (by rw [hy]) (by rw [hy])
    have o1 := ((dUnhide O3).2 1 _ rfl).1
    have NZ : Hid (∀ W, Below w5.heap.size w5 W → (W.cell? ⟨g, k * 3 + 1, none⟩ = some (.slice ya yn.length yc) ∧ W.frozen? ⟨g, k * 3 + 1, none⟩ = false) ∧ W.cell? ⟨eb, 1, none⟩ = some (.slice (some ⟨g, 0, none⟩) m.words.length uc)) := fun W hB => ⟨⟨(hB.cell (p := ⟨g, k * 3 + 1, none⟩) (dCell_lt d1)).trans d1, (hB.frozen (p := ⟨g, k * 3 + 1, none⟩) (dCell_lt d1)).trans fz1⟩, (hB.cell (p := ⟨eb, 1, none⟩) (dCell_lt o1)).trans o1⟩
    have pb := o1
    obtain ⟨ln, hln⟩ : ∃ ln, ln = putL node yn := ⟨_, rfl⟩
    rw [← hln] at CPut U
    have HLN := dHide hln
    clear hln hlist
    go_wp2_with fail
    refine wp_region_noPanic ?_
    refine wp_region_held_drew (S := fun W => W.cell? ⟨eb, 1, none⟩ = some (.slice (some ⟨g, 0, none⟩) m.words.length uc)) (by kernel_rfl) (by first | exact pb | exact (dUnhide NZ _ bd).2 | exact p6 | exact set_other p6 (.inl (Ne.symm hgne)) | go_keep) (fun hHeld => ?_)
    refine wpAnyH_take (i := 0) (oi := { dst := some 43, op := Op.fieldAddr 40 (Operand.tmp 10) 1, type := 0, pos := "l08_writer.go:52", after := #[], guard := none }) (v := ?_) rfl (by kernel_rfl) (by kernel_rfl) (by kernel_rfl) (fun _ _ _ h => h) (Or.inl ⟨by rfl, ?_⟩) (by assumption) ?_
    rotate_left 1
    · intro w hSw
      (try dsimp only at hSw)
      first | (go_simp; done) | (go_simp; with_reducible rfl)
    try simp only [Act.put, List.setIfInBounds_toArray, List.set_cons_zero, List.set_cons_succ]
    refine wpAnyH_take (i := 1) (oi := { dst := some 44, op := Op.load 38 (Operand.tmp 43), type := 38, pos := "l08_writer.go:52", after := #[{ on := 0, ground := Ground.data }], guard := none }) (v := ?_) rfl (by kernel_rfl) (by kernel_rfl) (by kernel_rfl) (fun _ _ _ h => h) (Or.inl ⟨by rfl, ?_⟩) (by assumption) ?_
    rotate_left 1
    · intro w hSw
      (try dsimp only at hSw)
      first | (go_simp; done) | (go_simp; with_reducible rfl)
    try simp only [Act.put, List.setIfInBounds_toArray, List.set_cons_zero, List.set_cons_succ]
    refine wpAnyH_take (i := 2) (oi := { dst := some 45, op := Op.move (Operand.tmp 2), type := 3, pos := "l08_writer.go:52", after := #[], guard := none }) (v := ?_) rfl (by kernel_rfl) (by kernel_rfl) (by kernel_rfl) (fun _ _ _ h => h) (Or.inl ⟨by rfl, ?_⟩) (by assumption) ?_
    rotate_left 1
    · intro w hSw
      (try dsimp only at hSw)
      first | (go_simp; done) | (go_simp; with_reducible rfl)
    try simp only [Act.put, List.setIfInBounds_toArray, List.set_cons_zero, List.set_cons_succ]
    refine wpAnyH_take (i := 3) (oi := { dst := some 46, op := Op.binOp BinOp.sub 3 (Operand.tmp 45) (Operand.const (Value.int IntKind.i64 1)) 3, type := 3, pos := "l08_writer.go:52", after := #[{ on := 2, ground := Ground.data }], guard := none }) (v := ?_) rfl (by kernel_rfl) (by kernel_rfl) (by kernel_rfl) (fun _ _ _ h => h) (Or.inl ⟨by rfl, ?_⟩) (by assumption) ?_
    rotate_left 1
    · intro w hSw
      (try dsimp only at hSw)
      first | (go_simp; done) | (go_simp; with_reducible rfl)
    try simp only [Act.put, List.setIfInBounds_toArray, List.set_cons_zero, List.set_cons_succ]
    refine wpAnyH_take (i := 4) (oi := { dst := some 47, op := Op.fieldAddr 40 (Operand.tmp 10) 1, type := 0, pos := "l08_writer.go:52", after := #[], guard := none }) (v := ?_) rfl (by kernel_rfl) (by kernel_rfl) (by kernel_rfl) (fun _ _ _ h => h) (Or.inl ⟨by rfl, ?_⟩) (by assumption) ?_
    rotate_left 1
    · intro w hSw
      (try dsimp only at hSw)
      first | (go_simp; done) | (go_simp; with_reducible rfl)
    try simp only [Act.put, List.setIfInBounds_toArray, List.set_cons_zero, List.set_cons_succ]
    refine wpAnyH_take (i := 5) (oi := { dst := some 48, op := Op.load 38 (Operand.tmp 47), type := 38, pos := "l08_writer.go:52", after := #[{ on := 4, ground := Ground.data }], guard := none }) (v := ?_) rfl (by kernel_rfl) (by kernel_rfl) (by kernel_rfl) (fun _ _ _ h => h) (Or.inl ⟨by rfl, ?_⟩) (by assumption) ?_
    rotate_left 1
    · intro w hSw
      (try dsimp only at hSw)
      first | (go_simp; done) | (go_simp; with_reducible rfl)
    try simp only [Act.put, List.setIfInBounds_toArray, List.set_cons_zero, List.set_cons_succ]
    refine wpAnyH_take (i := 6) (oi := { dst := some 49, op := Op.move (Operand.tmp 2), type := 3, pos := "l08_writer.go:52", after := #[], guard := none }) (v := ?_) rfl (by kernel_rfl) (by kernel_rfl) (by kernel_rfl) (fun _ _ _ h => h) (Or.inl ⟨by rfl, ?_⟩) (by assumption) ?_
    rotate_left 1
    · intro w hSw
      (try dsimp only at hSw)
      first | (go_simp; done) | (go_simp; with_reducible rfl)
    try simp only [Act.put, List.setIfInBounds_toArray, List.set_cons_zero, List.set_cons_succ]
    refine wpAnyH_take (i := 7) (oi := { dst := some 50, op := Op.binOp BinOp.sub 3 (Operand.tmp 49) (Operand.const (Value.int IntKind.i64 1)) 3, type := 3, pos := "l08_writer.go:52", after := #[{ on := 6, ground := Ground.data }], guard := none }) (v := ?_) rfl (by kernel_rfl) (by kernel_rfl) (by kernel_rfl) (fun _ _ _ h => h) (Or.inl ⟨by rfl, ?_⟩) (by assumption) ?_
    rotate_left 1
    · intro w hSw
      (try dsimp only at hSw)
      first | (go_simp; done) | (go_simp; with_reducible rfl)
    try simp only [Act.put, List.setIfInBounds_toArray, List.set_cons_zero, List.set_cons_succ]
    refine wpAnyH_take (i := 8) (oi := { dst := some 51, op := Op.indexAddr 38 (Operand.tmp 48) (Operand.tmp 50), type := 0, pos := "l08_writer.go:52", after := #[{ on := 5, ground := Ground.data }, { on := 7, ground := Ground.data }], guard := none }) (v := ?_) rfl (by kernel_rfl) (by kernel_rfl) (by kernel_rfl) (fun _ _ _ h => h) (Or.inl ⟨by rfl, ?_⟩) (by assumption) ?_
    rotate_left 1
    · intro w hSw
      (try dsimp only at hSw)
      first | (go_simp; done) | (go_simp; with_reducible rfl)
    try simp only [Act.put, List.setIfInBounds_toArray, List.set_cons_zero, List.set_cons_succ]
    refine wpAnyH_take (i := 9) (oi := { dst := some 52, op := Op.fieldAddr 82 (Operand.tmp 51) 1, type := 0, pos := "l08_writer.go:52", after := #[{ on := 8, ground := Ground.data }], guard := none }) (v := ?_) rfl (by kernel_rfl) (by kernel_rfl) (by kernel_rfl) (fun _ _ _ h => h) (Or.inl ⟨by rfl, ?_⟩) (by assumption) ?_
    rotate_left 1
    · intro w hSw
      (try dsimp only at hSw)
      first | (go_simp; done) | (go_simp; with_reducible rfl)
    try simp only [Act.put, List.setIfInBounds_toArray, List.set_cons_zero, List.set_cons_succ]
    refine wpAnyH_take (i := 11) (oi := { dst := some 54, op := Op.move (Operand.tmp 3), type := 3, pos := "l08_writer.go:52", after := #[], guard := none }) (v := ?_) rfl (by kernel_rfl) (by kernel_rfl) (by kernel_rfl) (fun _ _ _ h => h) (Or.inl ⟨by rfl, ?_⟩) (by assumption) ?_
    rotate_left 1
    · intro w hSw
      (try dsimp only at hSw)
      first | (go_simp; done) | (go_simp; with_reducible rfl)
    try simp only [Act.put, List.setIfInBounds_toArray, List.set_cons_zero, List.set_cons_succ]
    refine wpAnyH_ready (rs := [10]) (by kernel_rfl) (by simp) ?_
    refine AllReadyH.cons (o := { dst := some 53, op := Op.load 24 (Operand.tmp 52), type := 24, pos := "l08_writer.go:52", after := #[{ on := 9, ground := Ground.data }], guard := none }) rfl (fun K hK => ?_) AllReadyH.nil
    go_simp
    refine hK.out _ _ (by first | exact pb | exact (dUnhide NZ _ bd).2 | exact p6 | exact set_other p6 (.inl (Ne.symm hgne)) | go_keep) (fun hHeld => ?_)
    clear hK K
    try simp only [Act.put, List.setIfInBounds_toArray, List.set_cons_zero, List.set_cons_succ]
    refine wpAnyH_ready (rs := [12]) (by kernel_rfl) (by simp) ?_
    refine AllReadyH.cons (o := { dst := some 55, op := Op.call { callee := Callee.value (Operand.func 103), args := #[Operand.tmp 53, Operand.tmp 54], argTypes := #[24, 3] }, type := 24, pos := "l08_writer.go:52", after := #[{ on := 10, ground := Ground.data }, { on := 11, ground := Ground.data }], guard := none }) rfl (fun K hK => ?_) AllReadyH.nil
    go_simp
    refine (dUnhide CPut).mono ?_
    rintro e w6 ⟨⟨u6, rfl, O6⟩, b6⟩
    obtain ⟨-, qa, qc, rfl, -, -⟩ := O6.bs
    have hb6 : Below w5.heap.size w5 w6 := belowThen bd b6
    have sz6 := hb6.size
    have O6' : OwnN w6 w5.heap.size (.slice qa ln.length qc) ln := O6.mono (by simp)
    have HS6 := dHide (dUnhide U w6 qa qc hb6 O6')
    obtain ⟨⟨c6, f6⟩, p6⟩ := dUnhide NZ w6 hb6
    have HO6 := dHide O6'
    clear O6 O6' b6
    (try go_wp2_with fail)
    refine hK.out _ _ (by first | exact pb | exact (dUnhide NZ _ bd).2 | exact p6 | exact set_other p6 (.inl (Ne.symm hgne)) | go_keep) (fun hHeld => ?_)
    clear hK K
    try simp only [Act.put, List.setIfInBounds_toArray, List.set_cons_zero, List.set_cons_succ]
    refine wpAnyH_take (i := 13) (oi := { dst := some 56, op := Op.indexAddr 38 (Operand.tmp 44) (Operand.tmp 46), type := 0, pos := "l08_writer.go:52", after := #[{ on := 1, ground := Ground.data }, { on := 3, ground := Ground.data }, { on := 0, ground := Ground.phase }, { on := 1, ground := Ground.phase }, { on := 2, ground := Ground.phase }, { on := 3, ground := Ground.phase }, { on := 4, ground := Ground.phase }, { on := 5, ground := Ground.phase }, { on := 6, ground := Ground.phase }, { on := 7, ground := Ground.phase }, { on := 8, ground := Ground.phase }, { on := 9, ground := Ground.phase }, { on := 10, ground := Ground.phase }, { on := 11, ground := Ground.phase }, { on := 12, ground := Ground.phase }], guard := none }) (v := ?_) rfl (by kernel_rfl) (by kernel_rfl) (by kernel_rfl) (fun _ _ _ h => h) (Or.inl ⟨by rfl, ?_⟩) (by assumption) ?_
    rotate_left 1
    · intro w hSw
      (try dsimp only at hSw)
      first | (go_simp; done) | (go_simp; with_reducible rfl)
    try simp only [Act.put, List.setIfInBounds_toArray, List.set_cons_zero, List.set_cons_succ]
    refine wpAnyH_take (i := 14) (oi := { dst := some 57, op := Op.fieldAddr 82 (Operand.tmp 56) 1, type := 0, pos := "l08_writer.go:52", after := #[{ on := 13, ground := Ground.data }, { on := 0, ground := Ground.phase }, { on := 1, ground := Ground.phase }, { on := 2, ground := Ground.phase }, { on := 3, ground := Ground.phase }, { on := 4, ground := Ground.phase }, { on := 5, ground := Ground.phase }, { on := 6, ground := Ground.phase }, { on := 7, ground := Ground.phase }, { on := 8, ground := Ground.phase }, { on := 9, ground := Ground.phase }, { on := 10, ground := Ground.phase }, { on := 11, ground := Ground.phase }, { on := 12, ground := Ground.phase }], guard := none }) (v := ?_) rfl (by kernel_rfl) (by kernel_rfl) (by kernel_rfl) (fun _ _ _ h => h) (Or.inl ⟨by rfl, ?_⟩) (by assumption) ?_
    rotate_left 1
    · intro w hSw
      (try dsimp only at hSw)
      first | (go_simp; done) | (go_simp; with_reducible rfl)
    try simp only [Act.put, List.setIfInBounds_toArray, List.set_cons_zero, List.set_cons_succ]
    refine wpAnyH_ready (rs := [15]) (by kernel_rfl) (by simp) ?_
    refine AllReadyH.cons (o := { dst := none, op := Op.store 24 (Operand.tmp 57) (Operand.tmp 55), type := 0, pos := "l08_writer.go:52", after := #[{ on := 14, ground := Ground.data }, { on := 12, ground := Ground.data }, { on := 12, ground := Ground.chain }, { on := 0, ground := Ground.phase }, { on := 1, ground := Ground.phase }, { on := 2, ground := Ground.phase }, { on := 3, ground := Ground.phase }, { on := 4, ground := Ground.phase }, { on := 5, ground := Ground.phase }, { on := 6, ground := Ground.phase }, { on := 7, ground := Ground.phase }, { on := 8, ground := Ground.phase }, { on := 9, ground := Ground.phase }, { on := 10, ground := Ground.phase }, { on := 11, ground := Ground.phase }, { on := 12, ground := Ground.phase }], guard := none }) rfl (fun K hK => ?_) AllReadyH.nil
    go_simp
    refine hK.out _ _ (by first | exact pb | exact (dUnhide NZ _ bd).2 | exact p6 | exact set_other p6 (.inl (Ne.symm hgne)) | go_keep) (fun hHeld => ?_)
    clear hK K
    try simp only [Act.put, List.setIfInBounds_toArray, List.set_cons_zero, List.set_cons_succ]
    refine wpAnyH_done (by kernel_rfl) ?_ _
    refine NoPanic.normal ?_
    (try simp only [Act.put, List.setIfInBounds_toArray, List.set_cons_zero, List.set_cons_succ])
    go_wp2_with fail
    have O7 := dHide (((dUnhide O3).below hb6).far (b' := g) (o := k * 3 + 1) (Ne.symm hgne) (.slice qa ln.length qc))
    have X7 := dHide (((dUnhide X3).below hb6).farB (b' := g) (o := k * 3 + 1) (by omega) (.slice qa ln.length qc))
    have Z7 := dHide (((dUnhide Z3).below hb6).far (b' := g) (o := k * 3 + 1) (by omega) (.slice qa ln.length qc))
    have B7 := (belowThen B3 hb6).setCell (p := ⟨g, k * 3 + 1, none⟩) (by simp only; omega) (.slice qa ln.length qc)
    have hkset : k < (r0.set k ⟨qa, qc, ⟨yd, ln, yb⟩⟩).length := by rw [List.length_set]; exact hk0
    have gk : (r0.set k (⟨qa, qc, ⟨yd, ln, yb⟩⟩ : Nst Wd))[k] = ⟨qa, qc, ⟨yd, ln, yb⟩⟩ := List.getElem_set_self _
    rw [dUnhide HLN] at HS6
    rw [← dUnhide HLN] at HS6
    have W7 := HS6
    have s7 : w5.heap.size ≤ (w6.setCell ⟨g, k * 3 + 1, none⟩ (.slice qa ln.length qc)).heap.size := by rw [World.size_setCell]; exact sz6
    generalize w6.setCell ⟨g, k * 3 + 1, none⟩ (.slice qa ln.length qc) = w7 at *
    obtain ⟨⟨-, d71, d72⟩, f71, f72⟩ := (dUnhide W7).cells hkset
    have l7 := (dUnhide W7).2.1 _ (List.getElem_mem hkset)
    have D7 := dHide fun x => (dUnhide W7).done hkset x
    rw [gk] at d71 d72 l7
    simp only [gk] at D7
    unfold Sv at l7
    simp only at d71 d72 l7
    have bd7 : Below w7.heap.size w7 w7.drew := (Below.refl _ _).drew
    obtain ⟨sc7, ec7, N7⟩ := dUnhide HCW w7 B7
    simp only [Value.agg.injEq] at ec7
    have CH := dHide (specHolds_any (.slice ca ds.length cc) (.slice qa ln.length qc) ds ln cop w7.drew (by
      have : sc7 = .slice ca ds.length cc := by simpa using ec7.symm
      rw [← this]; exact N7.below bd7) (l7.bs.below bd7) (by rw [dUnhide HLN]; have := putL_len node yn; omega))
    have o71 := ((dUnhide O7).2 1 _ rfl).1
    have x70 := dUnhide X7 0 _ rfl
    have x71 := dUnhide X7 1 _ rfl
    have pp7 := And.intro o71 (And.intro x70 x71)
    have NZ7 : Hid (∀ W, Below w7.heap.size w7 W → (W.cell? ⟨g, k * 3 + 2, none⟩ = some (.bool yb) ∧ W.frozen? ⟨g, k * 3 + 2, none⟩ = false) ∧ W.cell? ⟨eb, 1, none⟩ = some (.slice (some ⟨g, 0, none⟩) m.words.length uc) ∧ W.cell? ⟨w.heap.size, 0, none⟩ = some (.slice ca ds.length cc) ∧ W.cell? ⟨w.heap.size, 1, none⟩ = some (.int .i64 cop)) := fun W hB => ⟨⟨(hB.cell (p := ⟨g, k * 3 + 2, none⟩) (dCell_lt d72)).trans d72, (hB.frozen (p := ⟨g, k * 3 + 2, none⟩) (dCell_lt d72)).trans f72⟩, (hB.cell (p := ⟨eb, 1, none⟩) (dCell_lt o71)).trans o71, (hB.cell (p := ⟨w.heap.size, 0, none⟩) (dCell_lt x70)).trans x70, (hB.cell (p := ⟨w.heap.size, 1, none⟩) (dCell_lt x71)).trans x71⟩
    clear ec7 N7 sc7 l7 U NZ pb P3 CPut HS6 HO6 c6 f6 p6 d1 d2 fz1 fz2 O3 X3 Z3 hy
    refine wp_region_noPanic ?_
    refine wp_region_held_drew (S := fun W => W.cell? ⟨eb, 1, none⟩ = some (.slice (some ⟨g, 0, none⟩) m.words.length uc) ∧ W.cell? ⟨w.heap.size, 0, none⟩ = some (.slice ca ds.length cc) ∧ W.cell? ⟨w.heap.size, 1, none⟩ = some (.int .i64 cop)) (by kernel_rfl) (by first | exact pp7 | exact pp8 | exact ⟨set_other pp8.1 (.inl (Ne.symm hgne)), set_other pp8.2.1 (.inl (by omega)), set_other pp8.2.2 (.inl (by omega))⟩ | exact (dUnhide NZ7 _ bd7).2 | go_keep) (fun hHeld => ?_)
    refine wpAnyH_take (i := 0) (oi := { dst := some 58, op := Op.fieldAddr 40 (Operand.tmp 10) 1, type := 0, pos := "l08_writer.go:53", after := #[], guard := none }) (v := ?_) rfl (by kernel_rfl) (by kernel_rfl) (by kernel_rfl) (fun _ _ _ h => h) (Or.inl ⟨by rfl, ?_⟩) (by assumption) ?_
    rotate_left 1
    · intro w hSw
      (try dsimp only at hSw)
      first | (go_simp; done) | (go_simp; with_reducible rfl)
    try simp only [Act.put, List.setIfInBounds_toArray, List.set_cons_zero, List.set_cons_succ]
    refine wpAnyH_take (i := 1) (oi := { dst := some 59, op := Op.load 38 (Operand.tmp 58), type := 38, pos := "l08_writer.go:53", after := #[{ on := 0, ground := Ground.data }], guard := none }) (v := ?_) rfl (by kernel_rfl) (by kernel_rfl) (by kernel_rfl) (fun _ _ _ h => h) (Or.inl ⟨by rfl, ?_⟩) (by assumption) ?_
    rotate_left 1
    · intro w hSw
      (try dsimp only at hSw)
      first | (go_simp; done) | (go_simp; with_reducible rfl)
    try simp only [Act.put, List.setIfInBounds_toArray, List.set_cons_zero, List.set_cons_succ]
    refine wpAnyH_take (i := 2) (oi := { dst := some 60, op := Op.move (Operand.tmp 2), type := 3, pos := "l08_writer.go:53", after := #[], guard := none }) (v := ?_) rfl (by kernel_rfl) (by kernel_rfl) (by kernel_rfl) (fun _ _ _ h => h) (Or.inl ⟨by rfl, ?_⟩) (by assumption) ?_
    rotate_left 1
    · intro w hSw
      (try dsimp only at hSw)
      first | (go_simp; done) | (go_simp; with_reducible rfl)
    try simp only [Act.put, List.setIfInBounds_toArray, List.set_cons_zero, List.set_cons_succ]
    refine wpAnyH_take (i := 3) (oi := { dst := some 61, op := Op.binOp BinOp.sub 3 (Operand.tmp 60) (Operand.const (Value.int IntKind.i64 1)) 3, type := 3, pos := "l08_writer.go:53", after := #[{ on := 2, ground := Ground.data }], guard := none }) (v := ?_) rfl (by kernel_rfl) (by kernel_rfl) (by kernel_rfl) (fun _ _ _ h => h) (Or.inl ⟨by rfl, ?_⟩) (by assumption) ?_
    rotate_left 1
    · intro w hSw
      (try dsimp only at hSw)
      first | (go_simp; done) | (go_simp; with_reducible rfl)
    try simp only [Act.put, List.setIfInBounds_toArray, List.set_cons_zero, List.set_cons_succ]
    refine wpAnyH_take (i := 4) (oi := { dst := some 62, op := Op.load 26 (Operand.tmp 4), type := 26, pos := "l08_writer.go:53", after := #[], guard := none }) (v := ?_) rfl (by kernel_rfl) (by kernel_rfl) (by kernel_rfl) (fun _ _ _ h => h) (Or.inl ⟨by rfl, ?_⟩) (by assumption) ?_
    rotate_left 1
    · intro w hSw
      (try dsimp only at hSw)
      first | (go_simp; done) | (go_simp; with_reducible rfl)
    try simp only [Act.put, List.setIfInBounds_toArray, List.set_cons_zero, List.set_cons_succ]
    refine wpAnyH_take (i := 5) (oi := { dst := some 63, op := Op.fieldAddr 40 (Operand.tmp 10) 1, type := 0, pos := "l08_writer.go:53", after := #[], guard := none }) (v := ?_) rfl (by kernel_rfl) (by kernel_rfl) (by kernel_rfl) (fun _ _ _ h => h) (Or.inl ⟨by rfl, ?_⟩) (by assumption) ?_
    rotate_left 1
    · intro w hSw
      (try dsimp only at hSw)
      first | (go_simp; done) | (go_simp; with_reducible rfl)
    try simp only [Act.put, List.setIfInBounds_toArray, List.set_cons_zero, List.set_cons_succ]
    refine wpAnyH_take (i := 6) (oi := { dst := some 64, op := Op.load 38 (Operand.tmp 63), type := 38, pos := "l08_writer.go:53", after := #[{ on := 5, ground := Ground.data }], guard := none }) (v := ?_) rfl (by kernel_rfl) (by kernel_rfl) (by kernel_rfl) (fun _ _ _ h => h) (Or.inl ⟨by rfl, ?_⟩) (by assumption) ?_
    rotate_left 1
    · intro w hSw
      (try dsimp only at hSw)
      first | (go_simp; done) | (go_simp; with_reducible rfl)
    try simp only [Act.put, List.setIfInBounds_toArray, List.set_cons_zero, List.set_cons_succ]
    refine wpAnyH_take (i := 7) (oi := { dst := some 65, op := Op.move (Operand.tmp 2), type := 3, pos := "l08_writer.go:53", after := #[], guard := none }) (v := ?_) rfl (by kernel_rfl) (by kernel_rfl) (by kernel_rfl) (fun _ _ _ h => h) (Or.inl ⟨by rfl, ?_⟩) (by assumption) ?_
    rotate_left 1
    · intro w hSw
      (try dsimp only at hSw)
      first | (go_simp; done) | (go_simp; with_reducible rfl)
    try simp only [Act.put, List.setIfInBounds_toArray, List.set_cons_zero, List.set_cons_succ]
    refine wpAnyH_take (i := 8) (oi := { dst := some 66, op := Op.binOp BinOp.sub 3 (Operand.tmp 65) (Operand.const (Value.int IntKind.i64 1)) 3, type := 3, pos := "l08_writer.go:53", after := #[{ on := 7, ground := Ground.data }], guard := none }) (v := ?_) rfl (by kernel_rfl) (by kernel_rfl) (by kernel_rfl) (fun _ _ _ h => h) (Or.inl ⟨by rfl, ?_⟩) (by assumption) ?_
    rotate_left 1
    · intro w hSw
      (try dsimp only at hSw)
      first | (go_simp; done) | (go_simp; with_reducible rfl)
    try simp only [Act.put, List.setIfInBounds_toArray, List.set_cons_zero, List.set_cons_succ]
    refine wpAnyH_take (i := 9) (oi := { dst := some 67, op := Op.indexAddr 38 (Operand.tmp 64) (Operand.tmp 66), type := 0, pos := "l08_writer.go:53", after := #[{ on := 6, ground := Ground.data }, { on := 8, ground := Ground.data }], guard := none }) (v := ?_) rfl (by kernel_rfl) (by kernel_rfl) (by kernel_rfl) (fun _ _ _ h => h) (Or.inl ⟨by rfl, ?_⟩) (by assumption) ?_
    rotate_left 1
    · intro w hSw
      (try dsimp only at hSw)
      first | (go_simp; done) | (go_simp; with_reducible rfl)
    try simp only [Act.put, List.setIfInBounds_toArray, List.set_cons_zero, List.set_cons_succ]
    refine wpAnyH_take (i := 10) (oi := { dst := some 68, op := Op.fieldAddr 82 (Operand.tmp 67) 1, type := 0, pos := "l08_writer.go:53", after := #[{ on := 9, ground := Ground.data }], guard := none }) (v := ?_) rfl (by kernel_rfl) (by kernel_rfl) (by kernel_rfl) (fun _ _ _ h => h) (Or.inl ⟨by rfl, ?_⟩) (by assumption) ?_
    rotate_left 1
    · intro w hSw
      (try dsimp only at hSw)
      first | (go_simp; done) | (go_simp; with_reducible rfl)
    try simp only [Act.put, List.setIfInBounds_toArray, List.set_cons_zero, List.set_cons_succ]
    refine wpAnyH_ready (rs := [11]) (by kernel_rfl) (by simp) ?_
    refine AllReadyH.cons (o := { dst := some 69, op := Op.load 24 (Operand.tmp 68), type := 24, pos := "l08_writer.go:53", after := #[{ on := 10, ground := Ground.data }], guard := none }) rfl (fun K hK => ?_) AllReadyH.nil
    go_simp
    refine hK.out _ _ (by first | exact pp7 | exact pp8 | exact ⟨set_other pp8.1 (.inl (Ne.symm hgne)), set_other pp8.2.1 (.inl (by omega)), set_other pp8.2.2 (.inl (by omega))⟩ | exact (dUnhide NZ7 _ bd7).2 | go_keep) (fun hHeld => ?_)
    clear hK K
    try simp only [Act.put, List.setIfInBounds_toArray, List.set_cons_zero, List.set_cons_succ]
    refine wpAnyH_ready (rs := [12]) (by kernel_rfl) (by simp) ?_
    refine AllReadyH.cons (o := { dst := some 70, op := Op.call { callee := Callee.value (Operand.func 44), args := #[Operand.tmp 62, Operand.tmp 69], argTypes := #[26, 24] }, type := 4, pos := "l08_writer.go:53", after := #[{ on := 4, ground := Ground.data }, { on := 11, ground := Ground.data }], guard := none }) rfl (fun K hK => ?_) AllReadyH.nil
    go_simp
    refine (dUnhide CH).mono ?_
    rintro e w8 ⟨⟨bh, rfl, hbh⟩, b8⟩
    have hb8 : Below w7.heap.size w7 w8 := belowThen bd7 b8
    have sz8 := hb8.size
    obtain ⟨⟨c8, f8⟩, pp8⟩ := dUnhide NZ7 w8 hb8
    have HBH := dHide hbh
    have PW8 := dHide ((dUnhide W7).below hb8)
    have O8 := dHide ((dUnhide O7).below hb8)
    have Z8 := dHide ((dUnhide Z7).below hb8)
    have B8 := belowThen B7 hb8
    clear hbh b8
    (try go_wp2_with fail)
    refine hK.out _ _ (by first | exact pp7 | exact pp8 | exact ⟨set_other pp8.1 (.inl (Ne.symm hgne)), set_other pp8.2.1 (.inl (by omega)), set_other pp8.2.2 (.inl (by omega))⟩ | exact (dUnhide NZ7 _ bd7).2 | go_keep) (fun hHeld => ?_)
    clear hK K
    try simp only [Act.put, List.setIfInBounds_toArray, List.set_cons_zero, List.set_cons_succ]
    refine wpAnyH_take (i := 13) (oi := { dst := some 71, op := Op.indexAddr 38 (Operand.tmp 59) (Operand.tmp 61), type := 0, pos := "l08_writer.go:53", after := #[{ on := 1, ground := Ground.data }, { on := 3, ground := Ground.data }, { on := 0, ground := Ground.phase }, { on := 1, ground := Ground.phase }, { on := 2, ground := Ground.phase }, { on := 3, ground := Ground.phase }, { on := 4, ground := Ground.phase }, { on := 5, ground := Ground.phase }, { on := 6, ground := Ground.phase }, { on := 7, ground := Ground.phase }, { on := 8, ground := Ground.phase }, { on := 9, ground := Ground.phase }, { on := 10, ground := Ground.phase }, { on := 11, ground := Ground.phase }, { on := 12, ground := Ground.phase }], guard := none }) (v := ?_) rfl (by kernel_rfl) (by kernel_rfl) (by kernel_rfl) (fun _ _ _ h => h) (Or.inl ⟨by rfl, ?_⟩) (by assumption) ?_
    rotate_left 1
    · intro w hSw
      (try dsimp only at hSw)
      first | (go_simp; done) | (go_simp; with_reducible rfl)
    try simp only [Act.put, List.setIfInBounds_toArray, List.set_cons_zero, List.set_cons_succ]
    refine wpAnyH_take (i := 14) (oi := { dst := some 72, op := Op.fieldAddr 82 (Operand.tmp 71) 2, type := 0, pos := "l08_writer.go:53", after := #[{ on := 13, ground := Ground.data }, { on := 0, ground := Ground.phase }, { on := 1, ground := Ground.phase }, { on := 2, ground := Ground.phase }, { on := 3, ground := Ground.phase }, { on := 4, ground := Ground.phase }, { on := 5, ground := Ground.phase }, { on := 6, ground := Ground.phase }, { on := 7, ground := Ground.phase }, { on := 8, ground := Ground.phase }, { on := 9, ground := Ground.phase }, { on := 10, ground := Ground.phase }, { on := 11, ground := Ground.phase }, { on := 12, ground := Ground.phase }], guard := none }) (v := ?_) rfl (by kernel_rfl) (by kernel_rfl) (by kernel_rfl) (fun _ _ _ h => h) (Or.inl ⟨by rfl, ?_⟩) (by assumption) ?_
    rotate_left 1
    · intro w hSw
      (try dsimp only at hSw)
      first | (go_simp; done) | (go_simp; with_reducible rfl)
    try simp only [Act.put, List.setIfInBounds_toArray, List.set_cons_zero, List.set_cons_succ]
    refine wpAnyH_ready (rs := [15]) (by kernel_rfl) (by simp) ?_
    refine AllReadyH.cons (o := { dst := none, op := Op.store 4 (Operand.tmp 72) (Operand.tmp 70), type := 0, pos := "l08_writer.go:53", after := #[{ on := 14, ground := Ground.data }, { on := 12, ground := Ground.data }, { on := 12, ground := Ground.chain }, { on := 0, ground := Ground.phase }, { on := 1, ground := Ground.phase }, { on := 2, ground := Ground.phase }, { on := 3, ground := Ground.phase }, { on := 4, ground := Ground.phase }, { on := 5, ground := Ground.phase }, { on := 6, ground := Ground.phase }, { on := 7, ground := Ground.phase }, { on := 8, ground := Ground.phase }, { on := 9, ground := Ground.phase }, { on := 10, ground := Ground.phase }, { on := 11, ground := Ground.phase }, { on := 12, ground := Ground.phase }], guard := none }) rfl (fun K hK => ?_) AllReadyH.nil
    go_simp
    refine hK.out _ _ (by first | exact pp7 | exact pp8 | exact ⟨set_other pp8.1 (.inl (Ne.symm hgne)), set_other pp8.2.1 (.inl (by omega)), set_other pp8.2.2 (.inl (by omega))⟩ | exact (dUnhide NZ7 _ bd7).2 | go_keep) (fun hHeld => ?_)
    clear hK K
    try simp only [Act.put, List.setIfInBounds_toArray, List.set_cons_zero, List.set_cons_succ]
    refine wpAnyH_done (by kernel_rfl) ?_ _
    refine NoPanic.normal ?_
    (try simp only [Act.put, List.setIfInBounds_toArray, List.set_cons_zero, List.set_cons_succ])
    have PD := (dUnhide PW8).done hkset bh
    simp only [gk, List.set_set] at PD
    have EW : Hid ((r0.set k (⟨qa, qc, ⟨yd, ln, bh⟩⟩ : Nst Wd)).map Nst.m = (ackL ds cop m ((k : Int) + 1) node).words) := by
      rw [Hid, dUnhide HEL, List.map_set, dUnhide M1]
      congr 1
      rw [← erk, ackW_eq (b := bh) (by simp only; rw [← dUnhide HLN]; exact dUnhide HBH)]
      simp only
      rw [← dUnhide HLN]
    have NW := PD.ap
    rw [dUnhide EW] at NW
    have HNW := dHide NW
    have O9 := (dUnhide O8).far (b' := g) (o := k * 3 + 2) (Ne.symm hgne) (.bool bh)
    have Z9 := (dUnhide Z8).far (b' := g) (o := k * 3 + 2) (by omega) (.bool bh)
    have B9 := B8.setCell (p := ⟨g, k * 3 + 2, none⟩) (by simp only; omega) (.bool bh)
    clear PD EW NW PW8 O8 Z8 B8 D7 W7
    generalize w8.setCell ⟨g, k * 3 + 2, none⟩ (.bool bh) = w9 at *
    obtain ⟨z0, s0⟩ := O9.2 0 _ rfl
    obtain ⟨z1, s1'⟩ := O9.2 1 _ rfl
    obtain ⟨y0, p0⟩ := Z9.2 0 _ rfl
    obtain ⟨y1, p1⟩ := Z9.2 1 _ rfl
    have YY := dHide ((Z9.put 0 (.int .i64 m.epoch)).put 1 (.slice (some ⟨g, 0, none⟩) m.words.length uc))
    have OO := dHide (((dUnhide HNW).far (b := w.heap.size + 1 + 1) (o := 0) (by omega) (.int .i64 m.epoch)).far (b := w.heap.size + 1 + 1) (o := 1) (by omega) (.slice (some ⟨g, 0, none⟩) m.words.length uc))
    have BB := dHide ((B9.setCell (p := ⟨w.heap.size + 1 + 1, 0, none⟩) (by simp only; omega) (.int .i64 m.epoch)).setCell (p := ⟨w.heap.size + 1 + 1, 1, none⟩) (by simp only; omega) (.slice (some ⟨g, 0, none⟩) m.words.length uc))
    clear pp8 c8 f8 pp7 o71 x70 x71 d71 d72 f71 f72
    go_wp2_with fail
    generalize (w9.setCell ⟨w.heap.size + 1 + 1, 0, none⟩ (.int .i64 m.epoch)).setCell ⟨w.heap.size + 1 + 1, 1, none⟩ (.slice (some ⟨g, 0, none⟩) m.words.length uc) = V at *
    have q0 := ((dUnhide YY).2 0 _ rfl).1
    have q1 := ((dUnhide YY).2 1 _ rfl).1
    clear z0 s0 y0 y1 p0 p1 z1 s1'
    refine bodyPost_ret (v := .tuple #[.agg #[.int .i64 m.epoch, .slice (some ⟨g, 0, none⟩) m.words.length uc], .bool true]) (by simp [results, Tryz.results77, go_sem, q0, q1]) rfl ⟨⟨_, rfl, (dUnhide OO).mono (by omega)⟩, dUnhide BB⟩
end Go.Proofs.YthndkkjgjhgdnaaGreatDoor
