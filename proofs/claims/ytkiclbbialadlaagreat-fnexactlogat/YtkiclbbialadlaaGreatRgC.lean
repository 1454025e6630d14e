/- RegOk: when a register is right; spec's. -/
import Derived.Test.YtkiclbbialadlaaGreatGz15
import Derived.Test.YtkiclbbialadlaaGreatGaC
import Derived.Test.YtkiclbbialadlaaGreatGbP
namespace Go.Proofs.YtkiclbbialadlaaGreat
open Go.ChangeShapes Go.WideShapes Go.ChangeAt Go.RowKit
set_option linter.unusedVariables false
set_option linter.unusedSimpArgs false
set_option maxRecDepth 100000

def erC (ds : List Int) (cop : Int) (y : Er) (n i : Nat) (prev : Bool) : Prop :=
 holdsP ds cop y.nodes ∧ (0 ≤ y.last ∧ y.last ≤ 60) ∧ (y.closed = false → y.last = 0) ∧ (y.closed = true → i + 1 ≠ n ∧ (0 < i → prev = true))
def prevC (ms : List Er) (i : Nat) : Bool := (ms.getD (i - 1) ⟨[], false, 0⟩).closed
def plIn (n : Nat) (x : Int) : Prop := isPl x ∧ x / 4294967296 ≤ (n : Int)
def regP (ds : List Int) (cop : Int) (m : Rg) : Prop := cfgP ds cop ∧ m.eras.length ≤ 30 ∧ (m.trim = 0 ∨ plIn m.eras.length m.trim) ∧ ∀ i (h : i < m.eras.length), erC ds cop m.eras[i] m.eras.length i (prevC m.eras i)
set_option maxHeartbeats 8000000 in
theorem specRegOk_any (cv v : Value) (c : List Int × Int) (m : Rg) (w : World) (hc : RdConfig cv c w) (hv : RdRegister v m w) (ht : okInt m.trim) (hs : sizRegister m ≤ 1048576) :
  Calls Tryz.prog 109 #[cv, v] w fun e w' => RetB (regP c.1 c.2 m) e ∧ Below w.heap.size w w' := by
 obtain ⟨ds, cop⟩ := c
 obtain ⟨sc, rfl, hc⟩ := hc
 obtain ⟨sv, rfl, rs, hm, hr, hn⟩ := hv
 obtain ⟨t0, t1⟩ := ht
 simp only at *
 have hle : rs.length ≤ 1048576 := by unfold sizRegister sizEraS at hs; rw [← hm, List.length_map] at hs; omega
 have HL : Hid (∀ k (hk : k < rs.length), rs[k].m.nodes.length ≤ 1048576) := fun k hk => by
  have h1 := sumN_mem (ms := rs.map Nst.m) (k := k) (by simpa using hk)
  rw [List.getElem_map] at h1
  unfold sizRegister sizEraS at hs
  rw [← hm] at hs
  omega
 have CC := dH fun W (hb : Below w.heap.size w W) => specCfg_any sc ds cop W (hc.below hb)
 have CH := dH fun W (hb : Below w.heap.size w W) k (hk : k < rs.length) => specHolds_any sc (Sv Er.nodes rs[k]) ds rs[k].m.nodes cop W (hc.below hb) ((hn _ (List.getElem_mem hk)).below hb) (by have := dU HL k hk; omega)
 have HR := dH fun W (hb : Below w.heap.size w W) => hr.below hb
 have PD : Hid (regP ds cop m ↔ cfgP ds cop ∧ rs.length ≤ 30 ∧ (m.trim = 0 ∨ plIn rs.length m.trim) ∧ ∀ i (h : i < rs.length), erC ds cop rs[i].m rs.length i (prevC (rs.map Nst.m) i)) := by
  obtain ⟨em, tr⟩ := m
  simp only at hm
  subst hm
  unfold regP Hid
  simp only [List.length_map, List.getElem_map]
 generalize regP ds cop m = P at *
 generalize m.trim = tr at *
 obtain ⟨-, ca, cc, rfl, -, -⟩ := hc
 obtain ⟨-, a, cap, rfl, -, -⟩ := hr
 clear hn hm hs
 have ba : ∀ (w : World) o, Below w.heap.size w (w.alloc o) := fun w o => (Below.refl _ _).alloc (Nat.le_refl _) o
 have B0 := bT (ba w (.cells #[.slice ca ds.length cc, .int .i64 cop] 38)) (ba _ (.cells #[.slice a rs.length cap, .int .i64 tr] 42))
 have X0 := dH ((Bx.new w [.slice ca ds.length cc, .int .i64 cop] 38).below (ba _ (.cells #[.slice a rs.length cap, .int .i64 tr] 42)))
 have Y0 := Bx.new (w.alloc (.cells #[.slice ca ds.length cc, .int .i64 cop] 38)) [.slice a rs.length cap, .int .i64 tr] 42
 have e1 : (w.alloc (.cells #[.slice ca ds.length cc, .int .i64 cop] 38)).heap.size = w.heap.size + 1 := by simp
 rw [e1] at Y0
 replace Y0 := dH Y0
 clear e1
 go_enter Tryz.func109, Tryz.ntmps109
 go_wp2_with fail
 generalize (w.alloc (.cells #[.slice ca ds.length cc, .int .i64 cop] 38)).alloc (.cells #[.slice a rs.length cap, .int .i64 tr] 42) = w0 at *
 refine (dU CC _ B0).mono ?_
 rintro e w1 ⟨⟨b1, rfl, h1⟩, bl1⟩
 have B1 := bT B0 bl1
 have X1 := dH ((dU X0).below bl1)
 have Y1 := dH ((dU Y0).below bl1)
 have k0 := dU Y1 0 _ rfl
 have k1 := dU Y1 1 _ rfl
 clear X0 Y0 B0 bl1 CC
 cases b1
 ·have R : RetB P (.returned (.bool false)) := RetB.no fun h => by have := h1.2 ((dU PD).1 h).1; cases this
  clear h1
  go_wp2
  go_ret
  exact ⟨R, B1⟩
 have H1 := dH (h1.1 rfl)
 clear h1
 by_cases h30 : (rs.length : Int) > 30
 ·have R : RetB P (.returned (.bool false)) := RetB.no fun h => by have := ((dU PD).1 h).2.1; omega
  go_wp2
  go_ret
  exact ⟨R, B1⟩
 by_cases htr : tr = 0
 ·subst htr
  have PT := dH (show (0 : Int) = 0 ∨ plIn rs.length 0 from .inl rfl)
  have GY : Hid ((∀ i (h : i < rs.length), i < rs.length → erC ds cop rs[i].m rs.length i (prevC (rs.map Nst.m) i)) → P) := fun h => (dU PD).2 ⟨dU H1, by omega, dU PT, fun i hi => h i hi hi⟩
  have GN : Hid (∀ i (h : i < rs.length), ¬ erC ds cop rs[i].m rs.length i (prevC (rs.map Nst.m) i) → ¬ P) := fun i hi h hP => h (((dU PD).1 hP).2.2.2 i hi)
  clear PD PT 
  go_wp2
  go_loopw [6] (fun x wr => ∃ k : Nat, x = .int .i64 (k : Int) ∧ k ≤ rs.length ∧ Hid (∀ i (h : i < rs.length), i < k → erC ds cop rs[i].m rs.length i (prevC (rs.map Nst.m) i)) ∧ Hid (Bx wr w.heap.size [.slice ca ds.length cc, .int .i64 cop]) ∧ Hid (Bx wr (w.heap.size + 1) [.slice a rs.length cap, .int .i64 0]) ∧ Below w.heap.size w wr) (fun x _ => rs.length - (intOf x).toNat)
  case atStart => exact ⟨0, rfl, Nat.zero_le _, fun i h h' => by omega, X1, Y1, B1⟩
  case round =>
   obtain ⟨k, rfl, hk, hcd, hX, hY, hb⟩ := hrel
   clear B1 X1 Y1 k0 k1
   have x0 := dU hX 0 _ rfl
   have x1 := dU hX 1 _ rfl
   have y0 := dU hY 0 _ rfl
   by_cases hlt : (k : Int) < (rs.length : Int)
   ·have hkl : k < rs.length := by omega
    obtain ⟨b, off, rfl, he⟩ := (dU HR wr hb).era hkl
    have HE := dH fun i (hi : i < rs.length) => (he i hi).2.1
    obtain ⟨c0, c1, c2⟩ := he k hkl
    have CHk := dH fun W (hB : Below wr.heap.size wr W) => dU CH W (bT hb hB) k hkl
    have GNk := dH (dU GN k hkl)
    have GYk : Hid (erC ds cop rs[k].m rs.length k (prevC (rs.map Nst.m) k) → ∀ i (h : i < rs.length), i < k + 1 → erC ds cop rs[i].m rs.length i (prevC (rs.map Nst.m) i)) := fun h i hi hik => by
     by_cases e : i = k
     ·subst e; exact h
     ·exact dU hcd i hi (by omega)
    have PV : Hid (∀ j, k = j + 1 → wr.cell? ⟨b, off + j * 3 + 1, none⟩ = some (.bool (prevC (rs.map Nst.m) k))) := fun j hj => by
     subst hj
     have h1 := dU HE j (by omega)
     rw [h1]
     unfold prevC
     rw [Nat.add_sub_cancel, getD_lt _ (by simp; omega), List.getElem_map]
    unfold erC at GNk GYk
    unfold Sv at CHk
    generalize prevC (rs.map Nst.m) k = pv at *
    generalize rs[k] = y at *
    obtain ⟨ya, yc, yn, yb, yl⟩ := y
    simp only at GNk GYk CHk c0 c1 c2
    clear he HE hcd GN
    have bA := ba wr (.cells #[.slice ya yn.length yc, .bool yb, .int .i64 yl] 183)
    have x0' := ((dU hX).below bA) 0 _ rfl
    have x1' := ((dU hX).below bA) 1 _ rfl
    go_wp2_with fail
    have E2 := dH (Bx.new wr [.slice ya yn.length yc, .bool yb, .int .i64 yl] 183)
    have hsz : Hid ((wr.alloc (.cells #[.slice ya yn.length yc, .bool yb, .int .i64 yl] 183)).heap.size = wr.heap.size + 1) := by simp [Hid]
    generalize wr.alloc (.cells #[.slice ya yn.length yc, .bool yb, .int .i64 yl] 183) = w2 at *
    refine (dU CHk _ bA).mono ?_
    rintro e w3 ⟨⟨bh, rfl, hh⟩, b3⟩
    have bB := bT bA b3
    have B3 := bT hb bB
    have X3 := dH ((dU hX).below bB)
    have Y3 := dH ((dU hY).below bB)
    have E3 := dH ((dU E2).below b3)
    have PV3 : Hid (∀ j, k = j + 1 → w3.cell? ⟨b, off + j * 3 + 1, none⟩ = some (.bool pv)) := fun j hj => (bB.cell (p := ⟨b, off + j * 3 + 1, none⟩) (dCell_lt (dU PV j hj))).trans (dU PV j hj)
    have y0' := dU Y3 0 _ rfl
    have e1 := dU E3 1 _ rfl
    have e2 := dU E3 2 _ rfl
    clear x0 x1 x0' x1' y0 c0 c1 c2 bA b3 bB hX hY hb E2 PV CHk CH hsz
    cases bh
    ·have R : RetB P (.returned (.bool false)) := RetB.no (dU GNk fun h => by have := hh.2 h.1; cases this)
     clear hh
     go_wp2
     go_ret
     exact ⟨R, B3⟩
    have HH := dH (hh.1 rfl)
    clear hh
    by_cases hla : 0 ≤ yl ∧ yl ≤ 60
    ·have CI := dH fun W => l1In_yes yl 0 60 hla.1 hla.2 W
     go_wp2_with fail
     refine (dU CI _).mono ?_
     rintro e w4 ⟨rfl, rfl⟩
     clear CI
     cases yb with
     | false =>
      by_cases hl0 : yl = 0
      ·have G := dH (dU GYk ⟨dU HH, hla, fun _ => hl0, fun h => by cases h⟩)
       subst hl0
       clear GYk GNk hla
       go_wp2
       go_roundw
       case rel => exact ⟨k + 1, by go_num, by omega, G, X3, Y3, B3⟩
       case measure => simp [intOf]; omega
      ·have R : RetB P (.returned (.bool false)) := RetB.no (dU GNk fun h => hl0 (h.2.2.1 rfl))
       have hbn : (yl != 0) = true := by simp [hl0]
       clear GYk GNk hla
       go_wp2
       go_ret
       exact ⟨R, B3⟩
     | true =>
      by_cases hn : (k : Int) = (rs.length : Int) - 1
      ·have R : RetB P (.returned (.bool false)) := RetB.no (dU GNk fun h => (h.2.2.2 rfl).1 (by omega))
       have hbn : ((k : Int) == (rs.length : Int) - 1) = true := by simp [hn]
       clear GYk GNk hla
       go_wp2
       go_ret
       exact ⟨R, B3⟩
      ·have hbn : ((k : Int) == (rs.length : Int) - 1) = false := by simp [hn]
       rcases Nat.eq_zero_or_pos k with h0 | h0
       ·have G := dH (dU GYk ⟨dU HH, hla, (fun h => by cases h), fun _ => ⟨by omega, fun h => by omega⟩⟩)
        subst h0
        clear GYk GNk hla
        go_wp2
        go_roundw
        case rel => exact ⟨0 + 1, by go_num, by omega, G, X3, Y3, B3⟩
        case measure => simp [intOf]; omega
       ·obtain ⟨j, rfl⟩ : ∃ j, k = j + 1 := ⟨k - 1, by omega⟩
        have c1 := dU PV3 j rfl
        have ek : ((j + 1 : Nat) : Int) - 1 = (j : Int) := by omega
        have hjl : j < rs.length := by omega
        cases pv with
        | true =>
         have G := dH (dU GYk ⟨dU HH, hla, (fun h => by cases h), fun _ => ⟨by omega, fun _ => rfl⟩⟩)
         clear GYk GNk hla
         go_wp2
         go_roundw
         case rel => exact ⟨j + 1 + 1, by go_num, by omega, G, X3, Y3, B3⟩
         case measure => simp [intOf]; omega
        | false =>
         have R : RetB P (.returned (.bool false)) := RetB.no (dU GNk fun h => by have := (h.2.2.2 rfl).2 h0; cases this)
         clear GYk GNk hla
         go_wp2
         go_ret
         exact ⟨R, B3⟩
    ·have CI := dH fun W => l1In_no yl 0 60 (by omega) W
     have R : RetB P (.returned (.bool false)) := RetB.no (dU GNk fun h => hla h.2.1)
     clear GYk GNk hla
     go_wp2_with fail
     refine (dU CI _).mono ?_
     rintro e w4 ⟨rfl, rfl⟩
     go_wp2
     go_ret
     exact ⟨R, B3⟩
   ·have R : RetB P (.returned (.bool true)) := RetB.yes (dU GY fun i hi _ => dU hcd i hi (by omega))
    clear hcd GN GY
    go_wp2
    go_ret
    exact ⟨R, hb⟩
 ·have hbn : (tr != 0) = true := by simp [htr]
  by_cases hp : isPl tr
  ·have CP := dH fun W => specOk_yes tr hp W
   have CE := dH fun W => specEpoch_yes tr hp W
   go_wp2_with fail
   refine (dU CP _).mono ?_
   rintro e w2 ⟨rfl, rfl⟩
   go_wp2_with fail
   refine (dU CE _).mono ?_
   rintro e w2 ⟨rfl, rfl⟩
   have hpp := hp
   obtain ⟨p0, p1, p2, p3, p4⟩ := hpp
   generalize hq : tr / 4294967296 = q at *
   by_cases hqn : q > (rs.length : Int)
   ·have R : RetB P (.returned (.bool false)) := RetB.no fun h => by
     rcases ((dU PD).1 h).2.2.1 with h | h
     ·exact htr h
     ·have := h.2; omega
    clear hp
    go_wp2
    go_ret
    exact ⟨R, B1⟩
   ·have PT := dH (show tr = 0 ∨ plIn rs.length tr from .inr ⟨hp, by rw [hq]; omega⟩)
    have GY : Hid ((∀ i (h : i < rs.length), i < rs.length → erC ds cop rs[i].m rs.length i (prevC (rs.map Nst.m) i)) → P) := fun h => (dU PD).2 ⟨dU H1, by omega, dU PT, fun i hi => h i hi hi⟩
    have GN : Hid (∀ i (h : i < rs.length), ¬ erC ds cop rs[i].m rs.length i (prevC (rs.map Nst.m) i) → ¬ P) := fun i hi h hP => h (((dU PD).1 hP).2.2.2 i hi)
    clear PD PT hp hq p0 p1 p2 p3 p4 htr hbn CP CE
    go_wp2
    go_loopw [6] (fun x wr => ∃ k : Nat, x = .int .i64 (k : Int) ∧ k ≤ rs.length ∧ Hid (∀ i (h : i < rs.length), i < k → erC ds cop rs[i].m rs.length i (prevC (rs.map Nst.m) i)) ∧ Hid (Bx wr w.heap.size [.slice ca ds.length cc, .int .i64 cop]) ∧ Hid (Bx wr (w.heap.size + 1) [.slice a rs.length cap, .int .i64 tr]) ∧ Below w.heap.size w wr) (fun x _ => rs.length - (intOf x).toNat)
    case atStart => exact ⟨0, rfl, Nat.zero_le _, fun i h h' => by omega, X1, Y1, B1⟩
    case round =>
     obtain ⟨k, rfl, hk, hcd, hX, hY, hb⟩ := hrel
     clear B1 X1 Y1 k0 k1
     have x0 := dU hX 0 _ rfl
     have x1 := dU hX 1 _ rfl
     have y0 := dU hY 0 _ rfl
     by_cases hlt : (k : Int) < (rs.length : Int)
     ·have hkl : k < rs.length := by omega
      obtain ⟨b, off, rfl, he⟩ := (dU HR wr hb).era hkl
      have HE := dH fun i (hi : i < rs.length) => (he i hi).2.1
      obtain ⟨c0, c1, c2⟩ := he k hkl
      have CHk := dH fun W (hB : Below wr.heap.size wr W) => dU CH W (bT hb hB) k hkl
      have GNk := dH (dU GN k hkl)
      have GYk : Hid (erC ds cop rs[k].m rs.length k (prevC (rs.map Nst.m) k) → ∀ i (h : i < rs.length), i < k + 1 → erC ds cop rs[i].m rs.length i (prevC (rs.map Nst.m) i)) := fun h i hi hik => by
       by_cases e : i = k
       ·subst e; exact h
       ·exact dU hcd i hi (by omega)
      have PV : Hid (∀ j, k = j + 1 → wr.cell? ⟨b, off + j * 3 + 1, none⟩ = some (.bool (prevC (rs.map Nst.m) k))) := fun j hj => by
       subst hj
       have h1 := dU HE j (by omega)
       rw [h1]
       unfold prevC
       rw [Nat.add_sub_cancel, getD_lt _ (by simp; omega), List.getElem_map]
      unfold erC at GNk GYk
      unfold Sv at CHk
      generalize prevC (rs.map Nst.m) k = pv at *
      generalize rs[k] = y at *
      obtain ⟨ya, yc, yn, yb, yl⟩ := y
      simp only at GNk GYk CHk c0 c1 c2
      clear he HE hcd GN
      have bA := ba wr (.cells #[.slice ya yn.length yc, .bool yb, .int .i64 yl] 183)
      have x0' := ((dU hX).below bA) 0 _ rfl
      have x1' := ((dU hX).below bA) 1 _ rfl
      go_wp2_with fail
      have E2 := dH (Bx.new wr [.slice ya yn.length yc, .bool yb, .int .i64 yl] 183)
      have hsz : Hid ((wr.alloc (.cells #[.slice ya yn.length yc, .bool yb, .int .i64 yl] 183)).heap.size = wr.heap.size + 1) := by simp [Hid]
      generalize wr.alloc (.cells #[.slice ya yn.length yc, .bool yb, .int .i64 yl] 183) = w2 at *
      refine (dU CHk _ bA).mono ?_
      rintro e w3 ⟨⟨bh, rfl, hh⟩, b3⟩
      have bB := bT bA b3
      have B3 := bT hb bB
      have X3 := dH ((dU hX).below bB)
      have Y3 := dH ((dU hY).below bB)
      have E3 := dH ((dU E2).below b3)
      have PV3 : Hid (∀ j, k = j + 1 → w3.cell? ⟨b, off + j * 3 + 1, none⟩ = some (.bool pv)) := fun j hj => (bB.cell (p := ⟨b, off + j * 3 + 1, none⟩) (dCell_lt (dU PV j hj))).trans (dU PV j hj)
      have y0' := dU Y3 0 _ rfl
      have e1 := dU E3 1 _ rfl
      have e2 := dU E3 2 _ rfl
      clear x0 x1 x0' x1' y0 c0 c1 c2 bA b3 bB hX hY hb E2 PV CHk CH hsz
      cases bh
      ·have R : RetB P (.returned (.bool false)) := RetB.no (dU GNk fun h => by have := hh.2 h.1; cases this)
       clear hh
       go_wp2
       go_ret
       exact ⟨R, B3⟩
      have HH := dH (hh.1 rfl)
      clear hh
      by_cases hla : 0 ≤ yl ∧ yl ≤ 60
      ·have CI := dH fun W => l1In_yes yl 0 60 hla.1 hla.2 W
       go_wp2_with fail
       refine (dU CI _).mono ?_
       rintro e w4 ⟨rfl, rfl⟩
       clear CI
       cases yb with
       | false =>
        by_cases hl0 : yl = 0
        ·have G := dH (dU GYk ⟨dU HH, hla, fun _ => hl0, fun h => by cases h⟩)
         subst hl0
         clear GYk GNk hla
         go_wp2
         go_roundw
         case rel => exact ⟨k + 1, by go_num, by omega, G, X3, Y3, B3⟩
         case measure => simp [intOf]; omega
        ·have R : RetB P (.returned (.bool false)) := RetB.no (dU GNk fun h => hl0 (h.2.2.1 rfl))
         have hbn : (yl != 0) = true := by simp [hl0]
         clear GYk GNk hla
         go_wp2
         go_ret
         exact ⟨R, B3⟩
       | true =>
        by_cases hn : (k : Int) = (rs.length : Int) - 1
        ·have R : RetB P (.returned (.bool false)) := RetB.no (dU GNk fun h => (h.2.2.2 rfl).1 (by omega))
         have hbn : ((k : Int) == (rs.length : Int) - 1) = true := by simp [hn]
         clear GYk GNk hla
         go_wp2
         go_ret
         exact ⟨R, B3⟩
        ·have hbn : ((k : Int) == (rs.length : Int) - 1) = false := by simp [hn]
         rcases Nat.eq_zero_or_pos k with h0 | h0
         ·have G := dH (dU GYk ⟨dU HH, hla, (fun h => by cases h), fun _ => ⟨by omega, fun h => by omega⟩⟩)
          subst h0
          clear GYk GNk hla
          go_wp2
          go_roundw
          case rel => exact ⟨0 + 1, by go_num, by omega, G, X3, Y3, B3⟩
          case measure => simp [intOf]; omega
         ·obtain ⟨j, rfl⟩ : ∃ j, k = j + 1 := ⟨k - 1, by omega⟩
          have c1 := dU PV3 j rfl
          have ek : ((j + 1 : Nat) : Int) - 1 = (j : Int) := by omega
          have hjl : j < rs.length := by omega
          cases pv with
          | true =>
           have G := dH (dU GYk ⟨dU HH, hla, (fun h => by cases h), fun _ => ⟨by omega, fun _ => rfl⟩⟩)
           clear GYk GNk hla
           go_wp2
           go_roundw
           case rel => exact ⟨j + 1 + 1, by go_num, by omega, G, X3, Y3, B3⟩
           case measure => simp [intOf]; omega
          | false =>
           have R : RetB P (.returned (.bool false)) := RetB.no (dU GNk fun h => by have := (h.2.2.2 rfl).2 h0; cases this)
           clear GYk GNk hla
           go_wp2
           go_ret
           exact ⟨R, B3⟩
      ·have CI := dH fun W => l1In_no yl 0 60 (by omega) W
       have R : RetB P (.returned (.bool false)) := RetB.no (dU GNk fun h => hla h.2.1)
       clear GYk GNk hla
       go_wp2_with fail
       refine (dU CI _).mono ?_
       rintro e w4 ⟨rfl, rfl⟩
       go_wp2
       go_ret
       exact ⟨R, B3⟩
     ·have R : RetB P (.returned (.bool true)) := RetB.yes (dU GY fun i hi _ => dU hcd i hi (by omega))
      clear hcd GN GY
      go_wp2
      go_ret
      exact ⟨R, hb⟩
  ·have CP := dH fun W => specOk_no tr t1 hp W
   have R : RetB P (.returned (.bool false)) := RetB.no fun h => by
    rcases ((dU PD).1 h).2.2.1 with h | h
    ·exact htr h
    ·exact hp h.1
   clear hp
   go_wp2_with fail
   refine (dU CP _).mono ?_
   rintro e w2 ⟨rfl, rfl⟩
   go_wp2
   go_ret
   exact ⟨R, B1⟩
end Go.Proofs.YtkiclbbialadlaaGreat
