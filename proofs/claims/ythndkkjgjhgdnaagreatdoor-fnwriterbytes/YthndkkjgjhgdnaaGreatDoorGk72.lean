/- Several texts in one: RgC, PkO, PutW, PrC. -/
import Derived.Test.YthndkkjgjhgdnaaGreatDoorGk70
import Derived.Test.YthndkkjgjhgdnaaGreatDoorGaC
import Derived.Test.YthndkkjgjhgdnaaGreatDoorGk62
import Derived.Test.YthndkkjgjhgdnaaGreatDoorGk61
import Derived.Test.YthndkkjgjhgdnaaGreatDoorGk75
import Derived.Test.YthndkkjgjhgdnaaGreatDoorGaA
import Derived.Deep.MidRow
import Derived.WalkKit
import Derived.Test.YthndkkjgjhgdnaaGreatDoorGaB
namespace Go.Proofs.YthndkkjgjhgdnaaGreatDoor
open Go.ChangeShapes Go.WideShapes Go.ChangeAt Go.RowKit
set_option linter.unusedVariables false
set_option linter.unusedSimpArgs false
set_option maxRecDepth 100000

/-- An era in its place. -/
def erC (ds : List Int) (cop : Int) (y : Er) (n i : Nat) (prev : Bool) : Prop :=
  holdsP ds cop y.nodes ∧ (0 ≤ y.last ∧ y.last ≤ 60) ∧ (y.closed = false → y.last = 0) ∧ (y.closed = true → i + 1 ≠ n ∧ (0 < i → prev = true))
/-- Whether the era before is closed. -/
def prevC (ms : List Er) (i : Nat) : Bool := (ms.getD (i - 1) ⟨[], false, 0⟩).closed
/-- A place whose epoch is there. -/
def plIn (n : Nat) (x : Int) : Prop := isPl x ∧ x / 4294967296 ≤ (n : Int)
/-- A register that is right. -/
def regP (ds : List Int) (cop : Int) (m : Rg) : Prop := cfgP ds cop ∧ m.eras.length ≤ 30 ∧ (m.trim = 0 ∨ plIn m.eras.length m.trim) ∧ ∀ i (h : i < m.eras.length), erC ds cop m.eras[i] m.eras.length i (prevC m.eras i)
set_option maxHeartbeats 8000000 in
theorem specRegOk_any (cv v : Value) (c : List Int × Int) (m : Rg) (w : World) (hc : RdConfig cv c w) (hv : RdRegister v m w) (ht : okInt m.trim) (hs : sizRegister m ≤ 1048576) :
    Calls Tryz.prog 22 #[cv, v] w fun e w' => RetB (regP c.1 c.2 m) e ∧ Below w.heap.size w w' := by
  obtain ⟨ds, cop⟩ := c
  obtain ⟨sc, rfl, hc⟩ := hc
  obtain ⟨sv, rfl, rs, hm, hr, hn⟩ := hv
  obtain ⟨t0, t1⟩ := ht
  simp only at *
  have hle : rs.length ≤ 1048576 := by unfold sizRegister sizEraS at hs; rw [← hm, List.length_map] at hs; omega
  have HL : Hid (∀ k (hk : k < rs.length), rs[k].m.nodes.length ≤ 1048576) := fun k hk => by
    have h1 := sumN_mem (ms := rs.map Nst.m) (k := k) (by simpa using hk)
    rw [List.getElem_map] at h1
    unfold sizRegister sizEraS at hs
    rw [← hm] at hs
    omega
  have CC := dHide fun W (hb : Below w.heap.size w W) => specCfg_any sc ds cop W (hc.below hb)
  have CH := dHide fun W (hb : Below w.heap.size w W) k (hk : k < rs.length) => specHolds_any sc (Sv Er.nodes rs[k]) ds rs[k].m.nodes cop W (hc.below hb) ((hn _ (List.getElem_mem hk)).below hb) (by have := dUnhide HL k hk; omega)
  have HR := dHide fun W (hb : Below w.heap.size w W) => hr.below hb
  have PD : Hid (regP ds cop m ↔ cfgP ds cop ∧ rs.length ≤ 30 ∧ (m.trim = 0 ∨ plIn rs.length m.trim) ∧ ∀ i (h : i < rs.length), erC ds cop rs[i].m rs.length i (prevC (rs.map Nst.m) i)) := by
    obtain ⟨em, tr⟩ := m
    simp only at hm
    subst hm
    unfold regP Hid
    simp only [List.length_map, List.getElem_map]
  generalize regP ds cop m = P at *
  generalize m.trim = tr at *
  obtain ⟨-, ca, cc, rfl, -, -⟩ := hc
  obtain ⟨-, a, cap, rfl, -, -⟩ := hr
  clear hn hm hs
  have ba : ∀ (w : World) o, Below w.heap.size w (w.alloc o) := fun w o => (Below.refl _ _).alloc (Nat.le_refl _) o
  have B0 := belowThen (ba w (.cells #[.slice ca ds.length cc, .int .i64 cop] 26)) (ba _ (.cells #[.slice a rs.length cap, .int .i64 tr] 29))
  have X0 := dHide ((Bx.new w [.slice ca ds.length cc, .int .i64 cop] 26).below (ba _ (.cells #[.slice a rs.length cap, .int .i64 tr] 29)))
  have Y0 := Bx.new (w.alloc (.cells #[.slice ca ds.length cc, .int .i64 cop] 26)) [.slice a rs.length cap, .int .i64 tr] 29
  have e1 : (w.alloc (.cells #[.slice ca ds.length cc, .int .i64 cop] 26)).heap.size = w.heap.size + 1 := by simp
  rw [e1] at Y0
  replace Y0 := dHide Y0
  clear e1
  go_enter Tryz.func22, Tryz.ntmps22
  go_wp2_with fail
  generalize (w.alloc (.cells #[.slice ca ds.length cc, .int .i64 cop] 26)).alloc (.cells #[.slice a rs.length cap, .int .i64 tr] 29) = w0 at *
  refine (dUnhide CC _ B0).mono ?_
  rintro e w1 ⟨⟨b1, rfl, h1⟩, bl1⟩
  have B1 := belowThen B0 bl1
  have X1 := dHide ((dUnhide X0).below bl1)
  have Y1 := dHide ((dUnhide Y0).below bl1)
  have k0 := dUnhide Y1 0 _ rfl
  have k1 := dUnhide Y1 1 _ rfl
  clear X0 Y0 B0 bl1 CC
  cases b1
  · have R : RetB P (.returned (.bool false)) := RetB.no fun h => by have := h1.2 ((dUnhide PD).1 h).1; cases this
    clear h1
    go_wp2
    go_ret
    exact ⟨R, B1⟩
  have H1 := dHide (h1.1 rfl)
  clear h1
  by_cases h30 : (rs.length : Int) > 30
  · have R : RetB P (.returned (.bool false)) := RetB.no fun h => by have := ((dUnhide PD).1 h).2.1; omega
    go_wp2
    go_ret
    exact ⟨R, B1⟩
  by_cases htr : tr = 0
  · subst htr
    have PT := dHide (show (0 : Int) = 0 ∨ plIn rs.length 0 from .inl rfl)
    have GY : Hid ((∀ i (h : i < rs.length), i < rs.length → erC ds cop rs[i].m rs.length i (prevC (rs.map Nst.m) i)) → P) := fun h => (dUnhide PD).2 ⟨dUnhide H1, by omega, dUnhide PT, fun i hi => h i hi hi⟩
    have GN : Hid (∀ i (h : i < rs.length), ¬ erC ds cop rs[i].m rs.length i (prevC (rs.map Nst.m) i) → ¬ P) := fun i hi h hP => h (((dUnhide PD).1 hP).2.2.2 i hi)
    clear PD PT 
    go_wp2
    go_loopw [6] (fun x wr => ∃ k : Nat, x = .int .i64 (k : Int) ∧ k ≤ rs.length ∧ Hid (∀ i (h : i < rs.length), i < k → erC ds cop rs[i].m rs.length i (prevC (rs.map Nst.m) i)) ∧ Hid (Bx wr w.heap.size [.slice ca ds.length cc, .int .i64 cop]) ∧ Hid (Bx wr (w.heap.size + 1) [.slice a rs.length cap, .int .i64 0]) ∧ Below w.heap.size w wr) (fun x _ => rs.length - (intOf x).toNat)
    case atStart => exact ⟨0, rfl, Nat.zero_le _, fun i h h' => by omega, X1, Y1, B1⟩
    case round =>
      obtain ⟨k, rfl, hk, hcd, hX, hY, hb⟩ := hrel
      clear B1 X1 Y1 k0 k1
      have x0 := dUnhide hX 0 _ rfl
      have x1 := dUnhide hX 1 _ rfl
      have y0 := dUnhide hY 0 _ rfl
      by_cases hlt : (k : Int) < (rs.length : Int)
      · have hkl : k < rs.length := by omega
        obtain ⟨b, off, rfl, he⟩ := (dUnhide HR wr hb).era hkl
        have HE := dHide fun i (hi : i < rs.length) => (he i hi).2.1
        obtain ⟨c0, c1, c2⟩ := he k hkl
        have CHk := dHide fun W (hB : Below wr.heap.size wr W) => dUnhide CH W (belowThen hb hB) k hkl
        have GNk := dHide (dUnhide GN k hkl)
        have GYk : Hid (erC ds cop rs[k].m rs.length k (prevC (rs.map Nst.m) k) → ∀ i (h : i < rs.length), i < k + 1 → erC ds cop rs[i].m rs.length i (prevC (rs.map Nst.m) i)) := fun h i hi hik => by
          by_cases e : i = k
          · subst e; exact h
          · exact dUnhide hcd i hi (by omega)
        have PV : Hid (∀ j, k = j + 1 → wr.cell? ⟨b, off + j * 3 + 1, none⟩ = some (.bool (prevC (rs.map Nst.m) k))) := fun j hj => by
          subst hj
          have h1 := dUnhide HE j (by omega)
          rw [h1]
          unfold prevC
          rw [Nat.add_sub_cancel, getD_lt _ (by simp; omega), List.getElem_map]
        unfold erC at GNk GYk
        unfold Sv at CHk
        generalize prevC (rs.map Nst.m) k = pv at *
        generalize rs[k] = y at *
        obtain ⟨ya, yc, yn, yb, yl⟩ := y
        simp only at GNk GYk CHk c0 c1 c2
        clear he HE hcd GN
        have bA := ba wr (.cells #[.slice ya yn.length yc, .bool yb, .int .i64 yl] 57)
        have x0' := ((dUnhide hX).below bA) 0 _ rfl
        have x1' := ((dUnhide hX).below bA) 1 _ rfl
        go_wp2_with fail
        have E2 := dHide (Bx.new wr [.slice ya yn.length yc, .bool yb, .int .i64 yl] 57)
        have hsz : Hid ((wr.alloc (.cells #[.slice ya yn.length yc, .bool yb, .int .i64 yl] 57)).heap.size = wr.heap.size + 1) := by simp [Hid]
        generalize wr.alloc (.cells #[.slice ya yn.length yc, .bool yb, .int .i64 yl] 57) = w2 at *
        refine (dUnhide CHk _ bA).mono ?_
        rintro e w3 ⟨⟨bh, rfl, hh⟩, b3⟩
        have bB := belowThen bA b3
        have B3 := belowThen hb bB
        have X3 := dHide ((dUnhide hX).below bB)
        have Y3 := dHide ((dUnhide hY).below bB)
        have E3 := dHide ((dUnhide E2).below b3)
        have PV3 : Hid (∀ j, k = j + 1 → w3.cell? ⟨b, off + j * 3 + 1, none⟩ = some (.bool pv)) := fun j hj => (bB.cell (p := ⟨b, off + j * 3 + 1, none⟩) (dCell_lt (dUnhide PV j hj))).trans (dUnhide PV j hj)
        have y0' := dUnhide Y3 0 _ rfl
        have e1 := dUnhide E3 1 _ rfl
        have e2 := dUnhide E3 2 _ rfl
        clear x0 x1 x0' x1' y0 c0 c1 c2 bA b3 bB hX hY hb E2 PV CHk CH hsz
        cases bh
        · have R : RetB P (.returned (.bool false)) := RetB.no (dUnhide GNk fun h => by have := hh.2 h.1; cases this)
          clear hh
          go_wp2
          go_ret
          exact ⟨R, B3⟩
        have HH := dHide (hh.1 rfl)
        clear hh
        by_cases hla : 0 ≤ yl ∧ yl ≤ 60
        · have CI := dHide fun W => l1In_yes yl 0 60 hla.1 hla.2 W
          go_wp2_with fail
          refine (dUnhide CI _).mono ?_
          rintro e w4 ⟨rfl, rfl⟩
          clear CI
          cases yb with
          | false =>
            by_cases hl0 : yl = 0
            · have G := dHide (dUnhide GYk ⟨dUnhide HH, hla, fun _ => hl0, fun h => by cases h⟩)
              subst hl0
              clear GYk GNk hla
              go_wp2
              go_roundw
              case rel => exact ⟨k + 1, by go_num, by omega, G, X3, Y3, B3⟩
              case measure => simp [intOf]; omega
            · have R : RetB P (.returned (.bool false)) := RetB.no (dUnhide GNk fun h => hl0 (h.2.2.1 rfl))
              have hbn : (yl != 0) = true := by simp [hl0]
              clear GYk GNk hla
              go_wp2
              go_ret
              exact ⟨R, B3⟩
          | true =>
            by_cases hn : (k : Int) = (rs.length : Int) - 1
            · have R : RetB P (.returned (.bool false)) := RetB.no (dUnhide GNk fun h => (h.2.2.2 rfl).1 (by omega))
              have hbn : ((k : Int) == (rs.length : Int) - 1) = true := by simp [hn]
              clear GYk GNk hla
              go_wp2
              go_ret
              exact ⟨R, B3⟩
            · have hbn : ((k : Int) == (rs.length : Int) - 1) = false := by simp [hn]
              rcases Nat.eq_zero_or_pos k with h0 | h0
              · have G := dHide (dUnhide GYk ⟨dUnhide HH, hla, (fun h => by cases h), fun _ => ⟨by omega, fun h => by omega⟩⟩)
                subst h0
                clear GYk GNk hla
                go_wp2
                go_roundw
                case rel => exact ⟨0 + 1, by go_num, by omega, G, X3, Y3, B3⟩
                case measure => simp [intOf]; omega
              · obtain ⟨j, rfl⟩ : ∃ j, k = j + 1 := ⟨k - 1, by omega⟩
                have c1 := dUnhide PV3 j rfl
                have ek : ((j + 1 : Nat) : Int) - 1 = (j : Int) := by omega
                have hjl : j < rs.length := by omega
                cases pv with
                | true =>
                  have G := dHide (dUnhide GYk ⟨dUnhide HH, hla, (fun h => by cases h), fun _ => ⟨by omega, fun _ => rfl⟩⟩)
                  clear GYk GNk hla
                  go_wp2
                  go_roundw
                  case rel => exact ⟨j + 1 + 1, by go_num, by omega, G, X3, Y3, B3⟩
                  case measure => simp [intOf]; omega
                | false =>
                  have R : RetB P (.returned (.bool false)) := RetB.no (dUnhide GNk fun h => by have := (h.2.2.2 rfl).2 h0; cases this)
                  clear GYk GNk hla
                  go_wp2
                  go_ret
                  exact ⟨R, B3⟩
        · have CI := dHide fun W => l1In_no yl 0 60 (by omega) W
          have R : RetB P (.returned (.bool false)) := RetB.no (dUnhide GNk fun h => hla h.2.1)
          clear GYk GNk hla
          go_wp2_with fail
          refine (dUnhide CI _).mono ?_
          rintro e w4 ⟨rfl, rfl⟩
          go_wp2
          go_ret
          exact ⟨R, B3⟩
      · have R : RetB P (.returned (.bool true)) := RetB.yes (dUnhide GY fun i hi _ => dUnhide hcd i hi (by omega))
        clear hcd GN GY
        go_wp2
        go_ret
        exact ⟨R, hb⟩
  · have hbn : (tr != 0) = true := by simp [htr]
    by_cases hp : isPl tr
    · have CP := dHide fun W => specOk_yes tr hp W
      have CE := dHide fun W => specEpoch_yes tr hp W
      go_wp2_with fail
      refine (dUnhide CP _).mono ?_
      rintro e w2 ⟨rfl, rfl⟩
      go_wp2_with fail
      refine (dUnhide CE _).mono ?_
      rintro e w2 ⟨rfl, rfl⟩
      have hpp := hp
      obtain ⟨p0, p1, p2, p3, p4⟩ := hpp
      generalize hq : tr / 4294967296 = q at *
      by_cases hqn : q > (rs.length : Int)
      · have R : RetB P (.returned (.bool false)) := RetB.no fun h => by
          rcases ((dUnhide PD).1 h).2.2.1 with h | h
          · exact htr h
          · have := h.2; omega
        clear hp
        go_wp2
        go_ret
        exact ⟨R, B1⟩
      · have PT := dHide (show tr = 0 ∨ plIn rs.length tr from .inr ⟨hp, by rw [hq]; omega⟩)
        have GY : Hid ((∀ i (h : i < rs.length), i < rs.length → erC ds cop rs[i].m rs.length i (prevC (rs.map Nst.m) i)) → P) := fun h => (dUnhide PD).2 ⟨dUnhide H1, by omega, dUnhide PT, fun i hi => h i hi hi⟩
        have GN : Hid (∀ i (h : i < rs.length), ¬ erC ds cop rs[i].m rs.length i (prevC (rs.map Nst.m) i) → ¬ P) := fun i hi h hP => h (((dUnhide PD).1 hP).2.2.2 i hi)
        clear PD PT hp hq p0 p1 p2 p3 p4 htr hbn CP CE
        go_wp2
        go_loopw [6] (fun x wr => ∃ k : Nat, x = .int .i64 (k : Int) ∧ k ≤ rs.length ∧ Hid (∀ i (h : i < rs.length), i < k → erC ds cop rs[i].m rs.length i (prevC (rs.map Nst.m) i)) ∧ Hid (Bx wr w.heap.size [.slice ca ds.length cc, .int .i64 cop]) ∧ Hid (Bx wr (w.heap.size + 1) [.slice a rs.length cap, .int .i64 tr]) ∧ Below w.heap.size w wr) (fun x _ => rs.length - (intOf x).toNat)
        case atStart => exact ⟨0, rfl, Nat.zero_le _, fun i h h' => by omega, X1, Y1, B1⟩
        case round =>
          obtain ⟨k, rfl, hk, hcd, hX, hY, hb⟩ := hrel
          clear B1 X1 Y1 k0 k1
          have x0 := dUnhide hX 0 _ rfl
          have x1 := dUnhide hX 1 _ rfl
          have y0 := dUnhide hY 0 _ rfl
          by_cases hlt : (k : Int) < (rs.length : Int)
          · have hkl : k < rs.length := by omega
            obtain ⟨b, off, rfl, he⟩ := (dUnhide HR wr hb).era hkl
            have HE := dHide fun i (hi : i < rs.length) => (he i hi).2.1
            obtain ⟨c0, c1, c2⟩ := he k hkl
            have CHk := dHide fun W (hB : Below wr.heap.size wr W) => dUnhide CH W (belowThen hb hB) k hkl
            have GNk := dHide (dUnhide GN k hkl)
            have GYk : Hid (erC ds cop rs[k].m rs.length k (prevC (rs.map Nst.m) k) → ∀ i (h : i < rs.length), i < k + 1 → erC ds cop rs[i].m rs.length i (prevC (rs.map Nst.m) i)) := fun h i hi hik => by
              by_cases e : i = k
              · subst e; exact h
              · exact dUnhide hcd i hi (by omega)
            have PV : Hid (∀ j, k = j + 1 → wr.cell? ⟨b, off + j * 3 + 1, none⟩ = some (.bool (prevC (rs.map Nst.m) k))) := fun j hj => by
              subst hj
              have h1 := dUnhide HE j (by omega)
              rw [h1]
              unfold prevC
              rw [Nat.add_sub_cancel, getD_lt _ (by simp; omega), List.getElem_map]
            unfold erC at GNk GYk
            unfold Sv at CHk
            generalize prevC (rs.map Nst.m) k = pv at *
            generalize rs[k] = y at *
            obtain ⟨ya, yc, yn, yb, yl⟩ := y
            simp only at GNk GYk CHk c0 c1 c2
            clear he HE hcd GN
            have bA := ba wr (.cells #[.slice ya yn.length yc, .bool yb, .int .i64 yl] 57)
            have x0' := ((dUnhide hX).below bA) 0 _ rfl
            have x1' := ((dUnhide hX).below bA) 1 _ rfl
            go_wp2_with fail
            have E2 := dHide (Bx.new wr [.slice ya yn.length yc, .bool yb, .int .i64 yl] 57)
            have hsz : Hid ((wr.alloc (.cells #[.slice ya yn.length yc, .bool yb, .int .i64 yl] 57)).heap.size = wr.heap.size + 1) := by simp [Hid]
            generalize wr.alloc (.cells #[.slice ya yn.length yc, .bool yb, .int .i64 yl] 57) = w2 at *
            refine (dUnhide CHk _ bA).mono ?_
            rintro e w3 ⟨⟨bh, rfl, hh⟩, b3⟩
            have bB := belowThen bA b3
            have B3 := belowThen hb bB
            have X3 := dHide ((dUnhide hX).below bB)
            have Y3 := dHide ((dUnhide hY).below bB)
            have E3 := dHide ((dUnhide E2).below b3)
            have PV3 : Hid (∀ j, k = j + 1 → w3.cell? ⟨b, off + j * 3 + 1, none⟩ = some (.bool pv)) := fun j hj => (bB.cell (p := ⟨b, off + j * 3 + 1, none⟩) (dCell_lt (dUnhide PV j hj))).trans (dUnhide PV j hj)
            have y0' := dUnhide Y3 0 _ rfl
            have e1 := dUnhide E3 1 _ rfl
            have e2 := dUnhide E3 2 _ rfl
            clear x0 x1 x0' x1' y0 c0 c1 c2 bA b3 bB hX hY hb E2 PV CHk CH hsz
            cases bh
            · have R : RetB P (.returned (.bool false)) := RetB.no (dUnhide GNk fun h => by have := hh.2 h.1; cases this)
              clear hh
              go_wp2
              go_ret
              exact ⟨R, B3⟩
            have HH := dHide (hh.1 rfl)
            clear hh
            by_cases hla : 0 ≤ yl ∧ yl ≤ 60
            · have CI := dHide fun W => l1In_yes yl 0 60 hla.1 hla.2 W
              go_wp2_with fail
              refine (dUnhide CI _).mono ?_
              rintro e w4 ⟨rfl, rfl⟩
              clear CI
              cases yb with
              | false =>
                by_cases hl0 : yl = 0
                · have G := dHide (dUnhide GYk ⟨dUnhide HH, hla, fun _ => hl0, fun h => by cases h⟩)
                  subst hl0
                  clear GYk GNk hla
                  go_wp2
                  go_roundw
                  case rel => exact ⟨k + 1, by go_num, by omega, G, X3, Y3, B3⟩
                  case measure => simp [intOf]; omega
                · have R : RetB P (.returned (.bool false)) := RetB.no (dUnhide GNk fun h => hl0 (h.2.2.1 rfl))
                  have hbn : (yl != 0) = true := by simp [hl0]
                  clear GYk GNk hla
                  go_wp2
                  go_ret
                  exact ⟨R, B3⟩
              | true =>
                by_cases hn : (k : Int) = (rs.length : Int) - 1
                · have R : RetB P (.returned (.bool false)) := RetB.no (dUnhide GNk fun h => (h.2.2.2 rfl).1 (by omega))
                  have hbn : ((k : Int) == (rs.length : Int) - 1) = true := by simp [hn]
                  clear GYk GNk hla
                  go_wp2
                  go_ret
                  exact ⟨R, B3⟩
                · have hbn : ((k : Int) == (rs.length : Int) - 1) = false := by simp [hn]
                  rcases Nat.eq_zero_or_pos k with h0 | h0
                  · have G := dHide (dUnhide GYk ⟨dUnhide HH, hla, (fun h => by cases h), fun _ => ⟨by omega, fun h => by omega⟩⟩)
                    subst h0
                    clear GYk GNk hla
                    go_wp2
                    go_roundw
                    case rel => exact ⟨0 + 1, by go_num, by omega, G, X3, Y3, B3⟩
                    case measure => simp [intOf]; omega
                  · obtain ⟨j, rfl⟩ : ∃ j, k = j + 1 := ⟨k - 1, by omega⟩
                    have c1 := dUnhide PV3 j rfl
                    have ek : ((j + 1 : Nat) : Int) - 1 = (j : Int) := by omega
                    have hjl : j < rs.length := by omega
                    cases pv with
                    | true =>
                      have G := dHide (dUnhide GYk ⟨dUnhide HH, hla, (fun h => by cases h), fun _ => ⟨by omega, fun _ => rfl⟩⟩)
                      clear GYk GNk hla
                      go_wp2
                      go_roundw
                      case rel => exact ⟨j + 1 + 1, by go_num, by omega, G, X3, Y3, B3⟩
                      case measure => simp [intOf]; omega
                    | false =>
                      have R : RetB P (.returned (.bool false)) := RetB.no (dUnhide GNk fun h => by have := (h.2.2.2 rfl).2 h0; cases this)
                      clear GYk GNk hla
                      go_wp2
                      go_ret
                      exact ⟨R, B3⟩
            · have CI := dHide fun W => l1In_no yl 0 60 (by omega) W
              have R : RetB P (.returned (.bool false)) := RetB.no (dUnhide GNk fun h => hla h.2.1)
              clear GYk GNk hla
              go_wp2_with fail
              refine (dUnhide CI _).mono ?_
              rintro e w4 ⟨rfl, rfl⟩
              go_wp2
              go_ret
              exact ⟨R, B3⟩
          · have R : RetB P (.returned (.bool true)) := RetB.yes (dUnhide GY fun i hi _ => dUnhide hcd i hi (by omega))
            clear hcd GN GY
            go_wp2
            go_ret
            exact ⟨R, hb⟩
    · have CP := dHide fun W => specOk_no tr t1 hp W
      have R : RetB P (.returned (.bool false)) := RetB.no fun h => by
        rcases ((dUnhide PD).1 h).2.2.1 with h | h
        · exact htr h
        · exact hp h.1
      clear hp
      go_wp2_with fail
      refine (dUnhide CP _).mono ?_
      rintro e w2 ⟨rfl, rfl⟩
      go_wp2
      go_ret
      exact ⟨R, B1⟩
end Go.Proofs.YthndkkjgjhgdnaaGreatDoor
namespace Go.Proofs.YthndkkjgjhgdnaaGreatDoor
open Go.ChangeShapes Go.WideShapes Go.ChangeAt Go.RowKit
set_option linter.unusedVariables false
set_option linter.unusedSimpArgs false

theorem rdN_bd {bs : List UInt8} {q : Nat} (ok : Bool) (hq : q ≤ bs.length) : 0 ≤ (rdN bs q ok).1 ∧ (rdN bs q ok).1 ≤ 9223372036854775807 := by
  cases ok
  · rw [rdN_off]; exact ⟨by simp, by simp⟩
  · exact (rdN_step hq).1
theorem rdN_go {bs : List UInt8} {q : Nat} (ok : Bool) (hq : q ≤ bs.length) : q ≤ (rdN bs q ok).2.1 ∧ (rdN bs q ok).2.1 ≤ bs.length ∧ ((rdN bs q ok).2.2 = true → q + 1 ≤ (rdN bs q ok).2.1) := by
  cases ok
  · exact ⟨Nat.le_refl _, hq, fun h => by cases h⟩
  · exact (rdN_step hq).2
theorem rdN_was {bs : List UInt8} {q : Nat} {ok : Bool} (h : (rdN bs q ok).2.2 = true) : ok = true := by
  cases ok
  · cases h
  · rfl
theorem rdK_was {bs : List UInt8} {n q : Nat} {ok : Bool} (h : (rdK bs n q ok).2.2 = true) : ok = true := by
  cases ok
  · rw [rdK_off] at h; cases h
  · rfl
theorem rdK_go (bs : List UInt8) (n q : Nat) (ok : Bool) (hq : q ≤ bs.length) : q ≤ (rdK bs n q ok).2.1 ∧ ((rdK bs n q ok).2.2 = true → (rdK bs n q ok).1.length + q ≤ (rdK bs n q ok).2.1) ∧ ∀ x ∈ (rdK bs n q ok).1, 0 ≤ x ∧ x ≤ 9223372036854775807 := by
  induction n generalizing q ok with
  | zero => exact ⟨Nat.le_refl _, fun _ => by simp [rdK], fun x hx => by simp [rdK] at hx⟩
  | succ n ih =>
    cases ok
    · exact ⟨Nat.le_refl _, (fun h => by cases h), fun x hx => by simp [rdK] at hx⟩
    · rw [rdK_succ]
      have hs := rdN_step hq
      obtain ⟨i1, i2, i3⟩ := ih (rdN bs q true).2.1 (rdN bs q true).2.2 hs.2.2.1
      refine ⟨Nat.le_trans hs.2.1 i1, fun h => ?_, fun x hx => ?_⟩
      · have h1 := hs.2.2.2 (rdK_was h)
        have h2 := i2 h
        simp only [List.length_cons]
        omega
      · simp only [List.mem_cons] at hx
        rcases hx with rfl | hx
        · exact hs.1
        · exact i3 x hx
theorem rdL_go (bs : List UInt8) (q : Nat) (ok : Bool) (hq : q ≤ bs.length) : q ≤ (rdL bs q ok).2.1 ∧ (rdL bs q ok).2.1 ≤ bs.length ∧ ((rdL bs q ok).2.2 = true → (rdL bs q ok).1.length + 1 + q ≤ (rdL bs q ok).2.1) ∧ ∀ x ∈ (rdL bs q ok).1, 0 ≤ x ∧ x ≤ 9223372036854775807 := by
  have h1 := rdN_go ok hq
  obtain ⟨i1, i2, i3⟩ := rdK_go bs (rdN bs q ok).1.toNat (rdN bs q ok).2.1 (rdN bs q ok).2.2 h1.2.1
  refine ⟨Nat.le_trans h1.1 i1, rdL_le bs q ok hq, fun h => ?_, i3⟩
  have h2 := h1.2.2 (rdK_was h)
  have h3 := i2 h
  unfold rdL
  omega
theorem rdL_was {bs : List UInt8} {q : Nat} {ok : Bool} (h : (rdL bs q ok).2.2 = true) : ok = true := rdN_was (rdK_was h)
/-- An era that is read by the cursor, and where it is then. -/
def rdEr (bs : List UInt8) (q : Nat) (ok : Bool) : Er × Nat × Bool :=
  (⟨(rdL bs q ok).1, (rdN bs (rdL bs q ok).2.1 (rdL bs q ok).2.2).1 == 1, (rdN bs (rdN bs (rdL bs q ok).2.1 (rdL bs q ok).2.2).2.1 (rdN bs (rdL bs q ok).2.1 (rdL bs q ok).2.2).2.2).1⟩,
    (rdN bs (rdN bs (rdL bs q ok).2.1 (rdL bs q ok).2.2).2.1 (rdN bs (rdL bs q ok).2.1 (rdL bs q ok).2.2).2.2).2.1,
    (rdN bs (rdN bs (rdL bs q ok).2.1 (rdL bs q ok).2.2).2.1 (rdN bs (rdL bs q ok).2.1 (rdL bs q ok).2.2).2.2).2.2 && decide ((rdN bs (rdL bs q ok).2.1 (rdL bs q ok).2.2).1 ≤ 1))
def rdErs (bs : List UInt8) : Nat → Nat → Bool → List Er × Nat × Bool
  | 0, q, ok => ([], q, ok)
  | n + 1, q, false => ([], q, false)
  | n + 1, q, true => ((rdEr bs q true).1 :: (rdErs bs n (rdEr bs q true).2.1 (rdEr bs q true).2.2).1, (rdErs bs n (rdEr bs q true).2.1 (rdEr bs q true).2.2).2)
theorem rdErs_off (bs : List UInt8) (n q : Nat) : rdErs bs n q false = ([], q, false) := by cases n <;> rfl
theorem rdErs_zero (bs : List UInt8) (q : Nat) (ok : Bool) : rdErs bs 0 q ok = ([], q, ok) := rfl
theorem rdErs_succ (bs : List UInt8) (n q : Nat) : rdErs bs (n + 1) q true = ((rdEr bs q true).1 :: (rdErs bs n (rdEr bs q true).2.1 (rdEr bs q true).2.2).1, (rdErs bs n (rdEr bs q true).2.1 (rdEr bs q true).2.2).2) := rfl
theorem rdErs_was {bs : List UInt8} {n q : Nat} {ok : Bool} (h : (rdErs bs n q ok).2.2 = true) : ok = true := by
  cases ok
  · rw [rdErs_off] at h; cases h
  · rfl
theorem rdEr_go (bs : List UInt8) (q : Nat) (ok : Bool) (hq : q ≤ bs.length) : q ≤ (rdEr bs q ok).2.1 ∧ (rdEr bs q ok).2.1 ≤ bs.length ∧ ((rdEr bs q ok).2.2 = true → (rdEr bs q ok).1.nodes.length + 1 + q ≤ (rdEr bs q ok).2.1) ∧ fitEr (rdEr bs q ok).1 := by
  obtain ⟨a1, a2, a3, a4⟩ := rdL_go bs q ok hq
  obtain ⟨b1, b2, b3⟩ := rdN_go (rdL bs q ok).2.2 a2
  obtain ⟨c1, c2, c3⟩ := rdN_go (rdN bs (rdL bs q ok).2.1 (rdL bs q ok).2.2).2.2 b2
  have d := rdN_bd (rdN bs (rdL bs q ok).2.1 (rdL bs q ok).2.2).2.2 b2
  refine ⟨by unfold rdEr; simp only; omega, by unfold rdEr; simp only; omega, fun h => ?_, ?_⟩
  · unfold rdEr at h ⊢
    simp only [Bool.and_eq_true] at h ⊢
    have h2 := rdN_was h.1
    have h3 := a3 (rdN_was h2)
    omega
  · unfold rdEr
    exact ⟨fun x hx => by have := a4 x hx; omega, by simp only; omega⟩
theorem rdErs_go (bs : List UInt8) (n q : Nat) (ok : Bool) (hq : q ≤ bs.length) : (rdErs bs n q ok).2.1 ≤ bs.length ∧ q ≤ (rdErs bs n q ok).2.1 ∧ ((rdErs bs n q ok).2.2 = true → (rdErs bs n q ok).1.length + sumN (rdErs bs n q ok).1 + q ≤ (rdErs bs n q ok).2.1) ∧ ∀ e ∈ (rdErs bs n q ok).1, fitEr e := by
  induction n generalizing q ok with
  | zero => exact ⟨hq, Nat.le_refl _, fun _ => by simp [rdErs, sumN], fun e he => by simp [rdErs] at he⟩
  | succ n ih =>
    cases ok
    · exact ⟨hq, Nat.le_refl _, (fun h => by cases h), fun e he => by simp [rdErs] at he⟩
    · rw [rdErs_succ]
      obtain ⟨a1, a2, a3, a4⟩ := rdEr_go bs q true hq
      obtain ⟨i0, i1, i2, i3⟩ := ih (rdEr bs q true).2.1 (rdEr bs q true).2.2 a2
      refine ⟨i0, Nat.le_trans a1 i1, fun h => ?_, fun e he => ?_⟩
      · have h1 := a3 (rdErs_was h)
        have h2 := i2 h
        have h4 : sumN ((rdEr bs q true).1 :: (rdErs bs n (rdEr bs q true).2.1 (rdEr bs q true).2.2).1) = (rdEr bs q true).1.nodes.length + sumN (rdErs bs n (rdEr bs q true).2.1 (rdEr bs q true).2.2).1 := by simp [sumN]
        rw [h4, List.length_cons]
        simp only at h2 ⊢
        omega
      · simp only [List.mem_cons] at he
        rcases he with rfl | he
        · exact a4
        · exact i3 e he
/-- What is read of a register, where that ends, and whether all was right. -/
def rgRa (bs : List UInt8) : Int × Nat × Bool := rdN bs 0 true
def rgRc (bs : List UInt8) : Int × Nat × Bool := rdN bs (rgRa bs).2.1 (rgRa bs).2.2
def rgRd (bs : List UInt8) : List Er × Nat × Bool := rdErs bs (rgRc bs).1.toNat (rgRc bs).2.1 (rgRc bs).2.2
def rgRm (bs : List UInt8) : Rg := ⟨(rgRd bs).1, (rgRa bs).1⟩
open Classical in
/-- RegRead. -/
noncomputable def rgR (ds : List Int) (cop : Int) (bs : List UInt8) : Rg × Bool := if endB bs (rgRd bs).2.1 (rgRd bs).2.2 = true ∧ regP ds cop (rgRm bs) then (rgRm bs, true) else (⟨[], 0⟩, false)
theorem rgR_yes (ds : List Int) (cop : Int) (bs : List UInt8) (h : endB bs (rgRd bs).2.1 (rgRd bs).2.2 = true ∧ regP ds cop (rgRm bs)) : rgR ds cop bs = (rgRm bs, true) := if_pos h
theorem rgR_no (ds : List Int) (cop : Int) (bs : List UInt8) (h : ¬ (endB bs (rgRd bs).2.1 (rgRd bs).2.2 = true ∧ regP ds cop (rgRm bs))) : rgR ds cop bs = (⟨[], 0⟩, false) := if_neg h
theorem rgRa_le (bs : List UInt8) : (rgRa bs).2.1 ≤ bs.length := (rdN_go true (Nat.zero_le _)).2.1
theorem rgRc_le (bs : List UInt8) : (rgRc bs).2.1 ≤ bs.length := (rdN_go _ (rgRa_le bs)).2.1
theorem rgRd_le (bs : List UInt8) : (rgRd bs).2.1 ≤ bs.length := (rdErs_go bs _ _ _ (rgRc_le bs)).1
theorem rgRm_ok (bs : List UInt8) : okRegister (rgRm bs) := ⟨(rdErs_go bs _ _ _ (rgRc_le bs)).2.2.2, by
  have := rdN_bd (bs := bs) true (Nat.zero_le bs.length)
  exact ⟨by unfold rgRm rgRa; simp only; omega, by unfold rgRm rgRa; simp only; omega⟩⟩
theorem rgRm_siz (bs : List UInt8) (h : (rgRd bs).2.2 = true) : sizRegister (rgRm bs) ≤ bs.length := by
  have h1 := (rdErs_go bs (rgRc bs).1.toNat (rgRc bs).2.1 (rgRc bs).2.2 (rgRc_le bs)).2.2.1 h
  have h2 := rgRd_le bs
  unfold rgRd at h2
  unfold sizRegister sizEraS rgRm rgRd
  simp only
  omega
end Go.Proofs.YthndkkjgjhgdnaaGreatDoor
namespace Go.Proofs.YthndkkjgjhgdnaaGreatDoor
open Go.ChangeShapes Go.WideShapes Go.ChangeAt Go.RowKit
set_option linter.unusedVariables false
set_option maxRecDepth 100000

theorem below_setCells {B b : Nat} {w : World} (hB : B ≤ b) : ∀ (vs : List Value) (o : Nat) (w' : World), Below B w w' → Below B w (w'.setCells b o vs)
  | [], _, _, h => h
  | v :: r, o, w', h => below_setCells hB r (o + 1) _ (h.setCell (p := ⟨b, o, none⟩) hB v)
theorem setCells_size (b : Nat) : ∀ (vs : List Value) (o : Nat) (w : World), (w.setCells b o vs).heap.size = w.heap.size
  | [], _, _ => rfl
  | v :: r, o, w => by rw [World.setCells, setCells_size b r]; simp
theorem setCells_block (b : Nat) {x : Nat} (h : x ≠ b) : ∀ (vs : List Value) (o : Nat) (w : World), (w.setCells b o vs).heap[x]? = w.heap[x]?
  | [], _, _ => rfl
  | v :: r, o, w => by rw [World.setCells, setCells_block b h r]; exact Below.heap_setCell _ _ _ x (by simp only; omega)
/-- A record is put into its box. -/
theorem op_putW {w : World} {o : Oper} {a : Act} {Q : Exit → Act → World → Prop} {K : Act → World → Prop} (T : TypeId) (p x : Operand) (hop : o.op = .store T p x) (hd : o.dst = none) {B b : Nat} {os : List Value} (vs : List Value) (hp : a.eval p = .pointer (some ⟨b, 0, none⟩)) (hx : a.eval x = .agg vs.toArray)
    (hY : BxZ w B b os) (hl : os.length = vs.length) (hi : (Tryz.prog.info? T).map (·.size) = some vs.toArray.size) (h1 : vs.toArray.all (·.oneCell') = true)
    (h : ∀ w', BxZ w' B b vs → w'.heap.size = w.heap.size → (∀ k, k ≠ b → w'.heap[k]? = w.heap[k]?) → Below B w w' → K a w') : Oper.wp Tryz.prog o a w K Q := by
  have ht : w.there b 0 vs.toArray.size := fun j hj => by
    have hj' : j < os.length := by simpa [hl] using hj
    have q := hY.2 j os[j] (by simp [hj'])
    simp only [Nat.zero_add]
    exact ⟨by rw [q.1]; rfl, q.2⟩
  have hr := run_storeAt_mid (P := Tryz.prog) w b 0 T vs.toArray ht hi h1
  have hc : ∀ j, j < vs.length → (w.cell? ⟨b, 0 + j, none⟩).isSome = true := fun j hj => (ht j (by simpa using hj)).1
  have Y : BxZ (w.setCells b 0 vs) B b vs := ⟨hY.1, fun i v hv => by
    obtain ⟨hi', rfl⟩ := List.getElem?_eq_some_iff.1 hv
    have hz := hY.2 i os[i] (by simp [hl, hi'])
    have e := World.cell?_setCells_in b vs 0 w hc i hi'
    rw [Nat.zero_add] at e
    exact ⟨e, (World.frozen?_setCells b vs 0 w _).trans hz.2⟩⟩
  have hh := h (w.setCells b 0 vs) Y (setCells_size b vs 0 w) (fun k hk => setCells_block b hk vs 0 w) (below_setCells hY.1 vs 0 w (Below.refl _ _))
  exact wp_store_mid T p x hop b 0 vs.toArray hp hx ht hi h1 (by rw [hd]; exact hh)
theorem wp_putW {w : World} {ops : Array Oper} {rest : List Oper} {o : Oper} {a : Act} {Q : Exit → Act → World → Prop} (hgd : o.guard = none) (T : TypeId) (p x : Operand) (hop : o.op = .store T p x) (hd : o.dst = none) {B b : Nat} {os : List Value} (vs : List Value) (hp : a.eval p = .pointer (some ⟨b, 0, none⟩)) (hx : a.eval x = .agg vs.toArray)
    (hY : BxZ w B b os) (hl : os.length = vs.length) (hi : (Tryz.prog.info? T).map (·.size) = some vs.toArray.size) (h1 : vs.toArray.all (·.oneCell') = true)
    (h : ∀ w', BxZ w' B b vs → w'.heap.size = w.heap.size → (∀ k, k ≠ b → w'.heap[k]? = w.heap[k]?) → Below B w w' → wpList Tryz.prog ops Q rest a w') : wpList Tryz.prog ops Q (o :: rest) a w :=
  wpList_plain hgd fun K' hK' => op_putW T p x hop hd vs hp hx hY hl hi h1 fun w' q1 q2 q3 q4 => hK' _ _ (h w' q1 q2 q3 q4)
theorem step_putW {w : World} {ops : Array Oper} {o : Oper} {a : Act} {Q : Exit → Act → World → Prop} {K : Act → World → Prop} {F : Prop} (hg : o.guard = none) (T : TypeId) (p x : Operand) (hop : o.op = .store T p x) (hd : o.dst = none) {B b : Nat} {os : List Value} (vs : List Value) (hp : a.eval p = .pointer (some ⟨b, 0, none⟩)) (hx : a.eval x = .agg vs.toArray)
    (hY : BxZ w B b os) (hl : os.length = vs.length) (hi : (Tryz.prog.info? T).map (·.size) = some vs.toArray.size) (h1 : vs.toArray.all (·.oneCell') = true)
    (h : ∀ w', BxZ w' B b vs → w'.heap.size = w.heap.size → (∀ k, k ≠ b → w'.heap[k]? = w.heap[k]?) → Below B w w' → K a w') :
    if Region.wanted o (yielded ops a.tmps) = true then Oper.wp Tryz.prog o a w K Q else F := by
  have hw : Region.wanted o (yielded ops a.tmps) = true := by simp [Region.wanted, hg]
  rw [if_pos hw]
  exact op_putW T p x hop hd vs hp hx hY hl hi h1 h
theorem Bx.off {w w' : World} {b c : Nat} {vs : List Value} (h : Bx w b vs) (g : ∀ k, k ≠ c → w'.heap[k]? = w.heap[k]?) (hb : b ≠ c) : Bx w' b vs := fun i v hv => (World.cell?_of_block (a := ⟨b, i, none⟩) (g b hb)).trans (h i v hv)
theorem BxZ.off {w w' : World} {B b c : Nat} {vs : List Value} (h : BxZ w B b vs) (g : ∀ k, k ≠ c → w'.heap[k]? = w.heap[k]?) (hb : b ≠ c) : BxZ w' B b vs := ⟨h.1, fun i v hv => ⟨(World.cell?_of_block (a := ⟨b, i, none⟩) (g b hb)).trans (h.2 i v hv).1, (World.frozen?_of_block (a := ⟨b, i, none⟩) (g b hb)).trans (h.2 i v hv).2⟩⟩
theorem Sits.off {P : World → Prop} {lo hi c : Nat} {w w' : World} (h : Sits P lo hi w) (g : ∀ k, k ≠ c → w'.heap[k]? = w.heap[k]?) (hb : c < lo ∨ hi ≤ c) (hs : w'.heap.size = w.heap.size) : Sits P lo hi w' :=
  ⟨by rw [hs]; exact h.fit, fun W hW => h.all W fun k h1 h2 => (hW k h1 h2).trans (g k (by omega))⟩
/-- A result that lies in a box. -/
theorem results_box {fn : Func} {p : Tmp} {ty : TypeId} (h : fn.results = #[.cell p ty]) (tmps : Array Value) (w : World) (b : Nat) (vs : List Value) (d : TypeDesc) (hp : tmps.getD p undef = .pointer (some ⟨b, 0, none⟩)) (hX : Bx w b vs) (hu : Tryz.prog.underlying ty = some d) (hd : d.isRow = true) (hi : (Tryz.prog.info? ty).map (·.size) = some vs.length) :
    (results fn tmps).run Tryz.prog w = .ok (.agg vs.toArray) w := by
  have hp' : tmps[p]?.getD undef = .pointer (some ⟨b, 0, none⟩) := by simpa using hp
  have hl := run_loadVar_mid (P := Tryz.prog) w b 0 ty vs d (fun j v hv => by rw [Nat.zero_add]; exact hX j v hv) hu hd hi
  simp [results, h, hp', asAddr, hl]
end Go.Proofs.YthndkkjgjhgdnaaGreatDoor
namespace Go.Proofs.YthndkkjgjhgdnaaGreatDoor
open Go.ChangeShapes Go.WideShapes Go.ChangeAt Go.RowKit
set_option linter.unusedVariables false
set_option linter.unusedSimpArgs false
set_option maxRecDepth 100000

/-- All was right, all was read, and it is a record. -/
def RdG (ok : Bool) (q n : Nat) (P : Prop) : Prop := ok = true ∧ q = n ∧ P
/-- What was read of a record, and whether it is one. -/
def RecPost {μ : Type} (O : μ → Value → World → Prop) (G : Prop) (M : μ) (w0 : World) (v err : Value) (w' : World) : Prop := ∃ m, O m v w' ∧ (G → err = .nilIface ∧ m = M) ∧ (¬ G → ∃ p, err = wrg p) ∧ Below w0.heap.size w0 w'
/-- .. and what is handed back of it. -/
def UnPost {μ : Type} (O : μ → Value → World → Prop) (G : Prop) (M : μ) (Z : Value) (w0 : World) (v : Value) (b : Bool) (w' : World) : Prop := (G → b = true ∧ O M v w') ∧ (¬ G → b = false ∧ v = Z) ∧ Below w0.heap.size w0 w'
/-- What hangs on blocks from n on alone. -/
def FarO (n : Nat) (O : World → Prop) : Prop := ∀ W W', O W → W.heap.size ≤ W'.heap.size → (∀ k, n ≤ k → k < W.heap.size → W'.heap[k]? = W.heap[k]?) → O W'
theorem OwnN.farO (n : Nat) (u : Value) (xs : List Int) : FarO n (fun W => OwnN W n u xs) := fun W W' h hs hk => by
  obtain ⟨h0, a, cap, rfl, hcap, h⟩ := h
  refine ⟨h0, a, cap, rfl, hcap, ?_⟩
  rcases h with h | ⟨b, off, rfl, hg, hc⟩
  · exact .inl h
  · exact .inr ⟨b, off, rfl, hg, fun i hi => ⟨(World.cell?_of_block (a := ⟨b, off + i, none⟩) (hk b hg (dCell_lt (hc i hi).1))).trans (hc i hi).1, (World.frozen?_of_block (a := ⟨b, off + i, none⟩) (hk b hg (dCell_lt (hc i hi).1))).trans (hc i hi).2⟩⟩
set_option maxHeartbeats 2000000 in
theorem newReader_any (v : Value) (bs : List UInt8) (w : World) (hv : Bs w v bs) :
    Calls Tryz.prog 95 #[v] w fun e w' => e = .returned (.pointer (some ⟨w.heap.size + 1, 0, none⟩)) ∧ Rc w' w.heap.size v 0 true ∧ Below w.heap.size w w' := by
  have ba : ∀ (w : World) o, Below w.heap.size w (w.alloc o) := fun w o => (Below.refl _ _).alloc (Nat.le_refl _) o
  obtain ⟨-, a, cap, rfl, -⟩ := hv
  have e1 : (w.alloc (.cells #[.int .i64 0] 3)).heap.size = w.heap.size + 1 := by simp
  have F := dHide (And.intro (Rc.yes (show RcW ((w.alloc (.cells #[.int .i64 0] 3)).alloc (.cells #[.slice a bs.length cap, .pointer (some ⟨w.heap.size, 0, none⟩), .nilIface] 147)) w.heap.size (.slice a bs.length cap) .nilIface ((0 : Nat) : Int) from ⟨by
    have := BxZ.new (B := w.heap.size) (w.alloc (.cells #[.int .i64 0] 3)) [.slice a bs.length cap, .pointer (some ⟨w.heap.size, 0, none⟩), .nilIface] 147 (by simp)
    rwa [e1] at this, by
    have h := (BxZ.new (B := w.heap.size) w [.int .i64 0] 3 (Nat.le_refl _)).below (ba _ (.cells #[.slice a bs.length cap, .pointer (some ⟨w.heap.size, 0, none⟩), .nilIface] 147))
    exact h.2 0 _ rfl⟩)) (belowThen (ba w (.cells #[.int .i64 0] 3)) (ba _ (.cells #[.slice a bs.length cap, .pointer (some ⟨w.heap.size, 0, none⟩), .nilIface] 147))))
  clear ba e1
  go_enter Tryz.func95, Tryz.ntmps95
  go_wp2
  go_ret
  exact ⟨rfl, (dUnhide F).1, (dUnhide F).2⟩
theorem Wr.new {lo hi : Nat} {w w1 w2 : World} (h : Wr lo hi w w1) {b : Nat} (hb : w.heap.size ≤ b) (g : ∀ k, k ≠ b → w2.heap[k]? = w1.heap[k]?) (hs : w2.heap.size = w1.heap.size) (hB : Below w.heap.size w1 w2) : Wr lo hi w w2 :=
  ⟨hB.os.trans h.os, hB.tape.trans h.tape, hB.output.trans h.output, by rw [hs]; exact h.size, fun k hk hn => (g k (by omega)).trans (h.block k hk hn)⟩
end Go.Proofs.YthndkkjgjhgdnaaGreatDoor
