/- WriterOk: when a writer is right; spec's. -/
import Derived.Test.YthndkkjgjhgdnaaGreatDoorGk77
import Derived.Test.YthndkkjgjhgdnaaGreatDoorGaC
import Derived.Test.YthndkkjgjhgdnaaGreatDoorGk60
import Derived.Deep.RegionHeld3
import Derived.Deep.DeepCutAuto
namespace Go.Proofs.YthndkkjgjhgdnaaGreatDoor
open Go.ChangeShapes Go.WideShapes Go.ChangeAt Go.RowKit
set_option linter.unusedVariables false
set_option linter.unusedSimpArgs false
set_option maxRecDepth 100000

/-- A word that is right. -/
def wdP (ds : List Int) (cop : Int) (e : Wd) : Prop := e.data.size ≤ 40 ∧ nodesP ds cop e.acks ∧ (holdsP ds cop e.acks ↔ e.done = true)
/-- How many words are open. -/
def openN (ms : List Wd) : Nat := ms.countP (fun e => !e.done)
theorem openN_step (ms : List Wd) (k : Nat) (h : k < ms.length) : openN (ms.take (k + 1)) = openN (ms.take k) + (if ms[k].done then 0 else 1) := by
  unfold openN
  rw [List.take_succ_eq_append_getElem h, List.countP_append]
  cases hd : ms[k].done <;> simp [hd]
theorem openN_le (ms : List Wd) : openN ms ≤ ms.length := List.countP_le_length
/-- A writer that is right. -/
def wrP (ds : List Int) (cop : Int) (m : Wt) : Prop := cfgP ds cop ∧ (1 ≤ m.epoch ∧ m.epoch ≤ 30) ∧ m.words.length ≤ 60 ∧ (∀ i (h : i < m.words.length), wdP ds cop m.words[i]) ∧ openN m.words ≤ 6
set_option maxHeartbeats 8000000 in
theorem specWriterOk_any (cv v : Value) (c : List Int × Int) (m : Wt) (w : World) (hc : RdConfig cv c w) (hv : RdWriter v m w) (hs : sizWriter m ≤ 4194304) :
    Calls Tryz.prog 37 #[cv, v] w fun e w' => RetB (wrP c.1 c.2 m) e ∧ Below w.heap.size w w' := by
  obtain ⟨ds, cop⟩ := c
  obtain ⟨sc, rfl, hc⟩ := hc
  obtain ⟨sv, rfl, rs, hm, hr, hn⟩ := hv
  simp only at *
  have hle : rs.length ≤ 4194304 := by unfold sizWriter sizWordS at hs; rw [← hm, List.length_map] at hs; omega
  have HL : Hid (∀ k (hk : k < rs.length), rs[k].m.acks.length ≤ 4194304) := fun k hk => by
    have h1 := sumW_mem (ms := rs.map Nst.m) (k := k) (by simpa using hk)
    rw [List.getElem_map] at h1
    unfold sizWriter sizWordS at hs
    rw [← hm] at hs
    omega
  have CC := dHide fun W (hb : Below w.heap.size w W) => specCfg_any sc ds cop W (hc.below hb)
  have CN := dHide fun W (hb : Below w.heap.size w W) k (hk : k < rs.length) => specNodes_any sc (Sv Wd.acks rs[k]) ds rs[k].m.acks cop W (hc.below hb) ((hn _ (List.getElem_mem hk)).below hb)
  have CH := dHide fun W (hb : Below w.heap.size w W) k (hk : k < rs.length) => specHolds_any sc (Sv Wd.acks rs[k]) ds rs[k].m.acks cop W (hc.below hb) ((hn _ (List.getElem_mem hk)).below hb) (by have := dUnhide HL k hk; omega)
  have HR := dHide fun W (hb : Below w.heap.size w W) => hr.below hb
  have PD : Hid (wrP ds cop m ↔ cfgP ds cop ∧ (1 ≤ m.epoch ∧ m.epoch ≤ 30) ∧ rs.length ≤ 60 ∧ (∀ i (h : i < rs.length), wdP ds cop rs[i].m) ∧ openN (rs.map Nst.m) ≤ 6) := by
    obtain ⟨ep, em⟩ := m
    simp only at hm
    subst hm
    unfold wrP Hid
    simp only [List.length_map, List.getElem_map]
  generalize wrP ds cop m = P at *
  generalize m.epoch = ep at *
  obtain ⟨-, ca, cc, rfl, -, -⟩ := hc
  obtain ⟨-, a, cap, rfl, -, -⟩ := hr
  clear hn hm hs
  have ba : ∀ (w : World) o, Below w.heap.size w (w.alloc o) := fun w o => (Below.refl _ _).alloc (Nat.le_refl _) o
  have B0 := belowThen (ba w (.cells #[.slice ca ds.length cc, .int .i64 cop] 26)) (ba _ (.cells #[.int .i64 ep, .slice a rs.length cap] 40))
  have X0 := dHide ((Bx.new w [.slice ca ds.length cc, .int .i64 cop] 26).below (ba _ (.cells #[.int .i64 ep, .slice a rs.length cap] 40)))
  have Y0 := Bx.new (w.alloc (.cells #[.slice ca ds.length cc, .int .i64 cop] 26)) [.int .i64 ep, .slice a rs.length cap] 40
  have e1 : (w.alloc (.cells #[.slice ca ds.length cc, .int .i64 cop] 26)).heap.size = w.heap.size + 1 := by simp
  rw [e1] at Y0
  replace Y0 := dHide Y0
  clear e1
  go_enter Tryz.func37, Tryz.ntmps37
  go_wp2_with fail
  generalize (w.alloc (.cells #[.slice ca ds.length cc, .int .i64 cop] 26)).alloc (.cells #[.int .i64 ep, .slice a rs.length cap] 40) = w0 at *
  refine (dUnhide CC _ B0).mono ?_
  rintro e w1 ⟨⟨b1, rfl, h1⟩, bl1⟩
  have B1 := belowThen B0 bl1
  have X1 := dHide ((dUnhide X0).below bl1)
  have Y1 := dHide ((dUnhide Y0).below bl1)
  have k0 := dUnhide Y1 0 _ rfl
  have k1 := dUnhide Y1 1 _ rfl
  clear X0 Y0 B0 bl1 CC
  cases b1
  · have R : RetB P (.returned (.bool false)) := RetB.no fun h => by have := h1.2 ((dUnhide PD).1 h).1; cases this
    clear h1
    go_wp2
    go_ret
    exact ⟨R, B1⟩
  have H1 := dHide (h1.1 rfl)
  clear h1
  by_cases hep' : ¬ (1 ≤ ep ∧ ep ≤ 30)
  · have CI := dHide fun W => l1In_no ep 1 30 (by omega) W
    have R : RetB P (.returned (.bool false)) := RetB.no fun h => hep' ((dUnhide PD).1 h).2.1
    clear hep'
    go_wp2_with fail
    refine (dUnhide CI _).mono ?_
    rintro e w2 ⟨rfl, rfl⟩
    go_wp2
    go_ret
    exact ⟨R, B1⟩
  have hep : 1 ≤ ep ∧ ep ≤ 30 := Classical.not_not.1 hep'
  clear hep'
  have CI := dHide fun W => l1In_yes ep 1 30 hep.1 hep.2 W
  go_wp2_with fail
  refine (dUnhide CI _).mono ?_
  rintro e w2 ⟨rfl, rfl⟩
  clear CI
  by_cases h60 : 60 < (rs.length : Int)
  · have R : RetB P (.returned (.bool false)) := RetB.no fun h => by have := ((dUnhide PD).1 h).2.2.1; omega
    go_wp2
    go_ret
    exact ⟨R, B1⟩
  have GY : Hid ((∀ i (h : i < rs.length), i < rs.length → wdP ds cop rs[i].m) → openN (rs.map Nst.m) ≤ 6 → P) := fun h h' => (dUnhide PD).2 ⟨dUnhide H1, hep, by omega, fun i hi => h i hi hi, h'⟩
  have GN : Hid (∀ i (h : i < rs.length), ¬ wdP ds cop rs[i].m → ¬ P) := fun i hi h hP => h (((dUnhide PD).1 hP).2.2.2.1 i hi)
  have GM : Hid (¬ openN (rs.map Nst.m) ≤ 6 → ¬ P) := fun h hP => h ((dUnhide PD).1 hP).2.2.2.2
  have GT : Hid ((rs.map Nst.m).take rs.length = rs.map Nst.m) := List.take_of_length_le (by rw [List.length_map]; omega)
  clear PD H1
  go_wp2
  go_loopw [5, 6] (fun y x wr => ∃ k q : Nat, x = .int .i64 (k : Int) ∧ y = .int .i64 (q : Int) ∧ k ≤ rs.length ∧ q ≤ k ∧ Hid (q = openN ((rs.map Nst.m).take k)) ∧ Hid (∀ i (h : i < rs.length), i < k → wdP ds cop rs[i].m) ∧ Hid (Bx wr w.heap.size [.slice ca ds.length cc, .int .i64 cop]) ∧ Hid (Bx wr (w.heap.size + 1) [.int .i64 ep, .slice a rs.length cap]) ∧ Below w.heap.size w wr) (fun _ x _ => rs.length - (intOf x).toNat)
  case atStart => exact ⟨0, 0, rfl, rfl, Nat.zero_le _, Nat.zero_le _, by simp [Hid, openN], fun i h h' => by omega, X1, Y1, B1⟩
  case round =>
    obtain ⟨k, q, rfl, rfl, hk, hq, hqo, hcd, hX, hY, hb⟩ := hrel
    clear B1 X1 Y1 k0 k1
    have x0 := dUnhide hX 0 _ rfl
    have x1 := dUnhide hX 1 _ rfl
    have y1 := dUnhide hY 1 _ rfl
    by_cases hlt : (k : Int) < (rs.length : Int)
    · have hkl : k < rs.length := by omega
      obtain ⟨b, off, rfl, he⟩ := (dUnhide HR wr hb).word hkl
      obtain ⟨c0, c1, c2⟩ := he k hkl
      have CNk := dHide fun W (hB : Below wr.heap.size wr W) => dUnhide CN W (belowThen hb hB) k hkl
      have CHk := dHide fun W (hB : Below wr.heap.size wr W) => dUnhide CH W (belowThen hb hB) k hkl
      have GNk := dHide (dUnhide GN k hkl)
      have GYk : Hid (wdP ds cop rs[k].m → ∀ i (h : i < rs.length), i < k + 1 → wdP ds cop rs[i].m) := fun h i hi hik => by
        by_cases e : i = k
        · subst e; exact h
        · exact dUnhide hcd i hi (by omega)
      have OS : Hid (openN ((rs.map Nst.m).take (k + 1)) = q + if rs[k].m.done then 0 else 1) := by
        have h1 := openN_step (rs.map Nst.m) k (by simpa using hkl)
        rw [List.getElem_map, ← dUnhide hqo] at h1
        exact h1
      unfold wdP at GNk GYk
      unfold Sv at CNk CHk
      have CNk' := CNk
      generalize rs[k] = y at *
      obtain ⟨ya, yc, yd, yn, yb⟩ := y
      simp only at GNk GYk CNk CHk c0 c1 c2 OS
      clear he hcd GN hqo CN CH CNk'
      have bA := ba wr (.cells #[.string yd, .slice ya yn.length yc, .bool yb] 82)
      go_wp2_with fail
      have E2 := dHide (Bx.new wr [.string yd, .slice ya yn.length yc, .bool yb] 82)
      have X2 := dHide ((dUnhide hX).below bA)
      have Y2 := dHide ((dUnhide hY).below bA)
      have B2 := belowThen hb bA
      have hsz : Hid ((wr.alloc (.cells #[.string yd, .slice ya yn.length yc, .bool yb] 82)).heap.size = wr.heap.size + 1) := by simp [Hid]
      generalize wr.alloc (.cells #[.string yd, .slice ya yn.length yc, .bool yb] 82) = w2 at *
      clear x0 x1 y1 c0 c1 c2 hX hY hb hsz
      have CNw := dHide fun W (hB : Below w2.heap.size w2 W) => dUnhide CNk W (belowThen bA hB)
      have CHw := dHide fun W (hB : Below w2.heap.size w2 W) => dUnhide CHk W (belowThen bA hB)
      clear CNk CHk
      generalize wr.heap.size = eb at *
      have bd : Below w2.heap.size w2 w2.drew := (Below.refl _ _).drew
      have PC : Hid (∀ W, Below w2.heap.size w2 W → W.cell? ⟨w.heap.size, 0, none⟩ = some (.slice ca ds.length cc) ∧ W.cell? ⟨w.heap.size, 1, none⟩ = some (.int .i64 cop) ∧ W.cell? ⟨eb, 0, none⟩ = some (.string yd) ∧ W.cell? ⟨eb, 1, none⟩ = some (.slice ya yn.length yc) ∧ W.cell? ⟨eb, 2, none⟩ = some (.bool yb)) := fun W hb => ⟨(dUnhide X2).below hb 0 _ rfl, (dUnhide X2).below hb 1 _ rfl, (dUnhide E2).below hb 0 _ rfl, (dUnhide E2).below hb 1 _ rfl, (dUnhide E2).below hb 2 _ rfl⟩
      by_cases hd : (40 : Int) < (yd.size : Int)
      · have R : RetB P (.returned (.bool false)) := RetB.no (dUnhide GNk fun h => by have := h.1; omega)
        clear GYk GNk OS CNw CHw
        refine wp_region_noPanic ?_
        refine wp_region_held_drew (S := fun W => W.cell? ⟨w.heap.size, 0, none⟩ = some (.slice ca ds.length cc) ∧ W.cell? ⟨w.heap.size, 1, none⟩ = some (.int .i64 cop) ∧ W.cell? ⟨eb, 0, none⟩ = some (.string yd) ∧ W.cell? ⟨eb, 1, none⟩ = some (.slice ya yn.length yc) ∧ W.cell? ⟨eb, 2, none⟩ = some (.bool yb)) (by kernel_rfl) (by first | exact dUnhide PC _ (Below.refl _ _) | exact dUnhide PC _ bd | exact dUnhide PC _ b3' | exact dUnhide PC _ b4') (fun hHeld => ?_)
        refine wpAnyH_take (i := 0) (oi := { dst := some 35, op := Op.fieldAddr 82 (Operand.tmp 7) 0, type := 0, pos := "l08_writer.go:12", after := #[], guard := none }) (v := ?_) rfl (by kernel_rfl) (by kernel_rfl) (by kernel_rfl) (fun _ _ _ h => h) (Or.inl ⟨by rfl, ?_⟩) (by assumption) ?_
        rotate_left 1
        · intro w hSw
          (try dsimp only at hSw)
          first | (go_simp; done) | (go_simp; with_reducible rfl)
        try simp only [Act.put, List.setIfInBounds_toArray, List.set_cons_zero, List.set_cons_succ]
        refine wpAnyH_take (i := 1) (oi := { dst := some 36, op := Op.load 9 (Operand.tmp 35), type := 9, pos := "l08_writer.go:12", after := #[{ on := 0, ground := Ground.data }], guard := none }) (v := ?_) rfl (by kernel_rfl) (by kernel_rfl) (by kernel_rfl) (fun _ _ _ h => h) (Or.inl ⟨by rfl, ?_⟩) (by assumption) ?_
        rotate_left 1
        · intro w hSw
          (try dsimp only at hSw)
          first | (go_simp; done) | (go_simp; with_reducible rfl)
        try simp only [Act.put, List.setIfInBounds_toArray, List.set_cons_zero, List.set_cons_succ]
        refine wpAnyH_take (i := 2) (oi := { dst := some 37, op := Op.call { callee := Callee.builtin Builtin.len, args := #[Operand.tmp 36], argTypes := #[9] }, type := 3, pos := "l08_writer.go:12", after := #[{ on := 1, ground := Ground.data }], guard := none }) (v := ?_) rfl (by kernel_rfl) (by kernel_rfl) (by kernel_rfl) (fun _ _ _ h => h) (Or.inl ⟨by rfl, ?_⟩) (by assumption) ?_
        rotate_left 1
        · intro w hSw
          (try dsimp only at hSw)
          first | (go_simp; done) | (go_simp; with_reducible rfl)
        try simp only [Act.put, List.setIfInBounds_toArray, List.set_cons_zero, List.set_cons_succ]
        refine wpAnyH_take (i := 3) (oi := { dst := some 38, op := Op.binOp BinOp.gtr 3 (Operand.tmp 37) (Operand.const (Value.int IntKind.i64 40)) 3, type := 4, pos := "l08_writer.go:12", after := #[{ on := 2, ground := Ground.data }], guard := none }) (v := ?_) rfl (by kernel_rfl) (by kernel_rfl) (by kernel_rfl) (fun _ _ _ h => h) (Or.inl ⟨by rfl, ?_⟩) (by assumption) ?_
        rotate_left 1
        · intro w hSw
          (try dsimp only at hSw)
          first | (go_simp; done) | (go_simp; with_reducible rfl)
        try simp only [Act.put, List.setIfInBounds_toArray, List.set_cons_zero, List.set_cons_succ]
        refine wpAnyH_take (i := 4) (oi := { dst := some 39, op := Op.move (Operand.tmp 38), type := 4, pos := "l08_writer.go:12", after := #[{ on := 3, ground := Ground.data }], guard := none }) (v := ?_) rfl (by kernel_rfl) (by kernel_rfl) (by kernel_rfl) (fun _ _ _ h => h) (Or.inl ⟨by rfl, ?_⟩) (by assumption) ?_
        rotate_left 1
        · intro w hSw
          (try dsimp only at hSw)
          first | (go_simp; done) | (go_simp; with_reducible rfl)
        try simp only [Act.put, List.setIfInBounds_toArray, List.set_cons_zero, List.set_cons_succ]
        refine wpAnyH_take (i := 5) (oi := { dst := some 40, op := Op.load 26 (Operand.tmp 2), type := 26, pos := "l08_writer.go:12", after := #[{ on := 4, ground := Ground.guard }], guard := some (4, false) }) (v := undef) rfl (by kernel_rfl) (by kernel_rfl) (by kernel_rfl) (fun _ _ _ h => h) (Or.inr ⟨by rfl, rfl⟩) (by assumption) ?_
        try simp only [Act.put, List.setIfInBounds_toArray, List.set_cons_zero, List.set_cons_succ]
        refine wpAnyH_take (i := 6) (oi := { dst := some 41, op := Op.fieldAddr 82 (Operand.tmp 7) 1, type := 0, pos := "l08_writer.go:12", after := #[{ on := 4, ground := Ground.guard }], guard := some (4, false) }) (v := undef) rfl (by kernel_rfl) (by kernel_rfl) (by kernel_rfl) (fun _ _ _ h => h) (Or.inr ⟨by rfl, rfl⟩) (by assumption) ?_
        try simp only [Act.put, List.setIfInBounds_toArray, List.set_cons_zero, List.set_cons_succ]
        refine wpAnyH_take (i := 7) (oi := { dst := some 42, op := Op.load 24 (Operand.tmp 41), type := 24, pos := "l08_writer.go:12", after := #[{ on := 6, ground := Ground.data }, { on := 4, ground := Ground.guard }], guard := some (4, false) }) (v := undef) rfl (by kernel_rfl) (by kernel_rfl) (by kernel_rfl) (fun _ _ _ h => h) (Or.inr ⟨by rfl, rfl⟩) (by assumption) ?_
        try simp only [Act.put, List.setIfInBounds_toArray, List.set_cons_zero, List.set_cons_succ]
        refine wpAnyH_take (i := 8) (oi := { dst := some 43, op := Op.call { callee := Callee.value (Operand.func 72), args := #[Operand.tmp 40, Operand.tmp 42], argTypes := #[26, 24] }, type := 4, pos := "l08_writer.go:12", after := #[{ on := 5, ground := Ground.data }, { on := 7, ground := Ground.data }, { on := 4, ground := Ground.chain }, { on := 4, ground := Ground.guard }], guard := some (4, false) }) (v := undef) rfl (by kernel_rfl) (by kernel_rfl) (by kernel_rfl) (fun _ _ _ h => h) (Or.inr ⟨by rfl, rfl⟩) (by assumption) ?_
        try simp only [Act.put, List.setIfInBounds_toArray, List.set_cons_zero, List.set_cons_succ]
        refine wpAnyH_take (i := 9) (oi := { dst := some 44, op := Op.unOp UnOp.not 4 (Operand.tmp 43), type := 4, pos := "l08_writer.go:12", after := #[{ on := 8, ground := Ground.data }, { on := 4, ground := Ground.guard }], guard := some (4, false) }) (v := undef) rfl (by kernel_rfl) (by kernel_rfl) (by kernel_rfl) (fun _ _ _ h => h) (Or.inr ⟨by rfl, rfl⟩) (by assumption) ?_
        try simp only [Act.put, List.setIfInBounds_toArray, List.set_cons_zero, List.set_cons_succ]
        refine wpAnyH_take (i := 10) (oi := { dst := some 45, op := Op.pick (Operand.tmp 39) (Operand.const (Value.bool true)) (Operand.tmp 44), type := 4, pos := "l08_writer.go:12", after := #[{ on := 4, ground := Ground.data }, { on := 9, ground := Ground.data }], guard := none }) (v := ?_) rfl (by kernel_rfl) (by kernel_rfl) (by kernel_rfl) (fun _ _ _ h => h) (Or.inl ⟨by rfl, ?_⟩) (by assumption) ?_
        rotate_left 1
        · intro w hSw
          (try dsimp only at hSw)
          first | (go_simp; done) | (go_simp; with_reducible rfl)
        try simp only [Act.put, List.setIfInBounds_toArray, List.set_cons_zero, List.set_cons_succ]
        refine wpAnyH_take (i := 11) (oi := { dst := some 46, op := Op.move (Operand.tmp 45), type := 4, pos := "l08_writer.go:12", after := #[{ on := 10, ground := Ground.data }, { on := 8, ground := Ground.chain }], guard := none }) (v := ?_) rfl (by kernel_rfl) (by kernel_rfl) (by kernel_rfl) (fun _ _ _ h => h) (Or.inl ⟨by rfl, ?_⟩) (by assumption) ?_
        rotate_left 1
        · intro w hSw
          (try dsimp only at hSw)
          first | (go_simp; done) | (go_simp; with_reducible rfl)
        try simp only [Act.put, List.setIfInBounds_toArray, List.set_cons_zero, List.set_cons_succ]
        refine wpAnyH_take (i := 12) (oi := { dst := some 47, op := Op.load 26 (Operand.tmp 2), type := 26, pos := "l08_writer.go:12", after := #[{ on := 11, ground := Ground.guard }], guard := some (11, false) }) (v := undef) rfl (by kernel_rfl) (by kernel_rfl) (by kernel_rfl) (fun _ _ _ h => h) (Or.inr ⟨by rfl, rfl⟩) (by assumption) ?_
        try simp only [Act.put, List.setIfInBounds_toArray, List.set_cons_zero, List.set_cons_succ]
        refine wpAnyH_take (i := 13) (oi := { dst := some 48, op := Op.fieldAddr 82 (Operand.tmp 7) 1, type := 0, pos := "l08_writer.go:12", after := #[{ on := 11, ground := Ground.guard }], guard := some (11, false) }) (v := undef) rfl (by kernel_rfl) (by kernel_rfl) (by kernel_rfl) (fun _ _ _ h => h) (Or.inr ⟨by rfl, rfl⟩) (by assumption) ?_
        try simp only [Act.put, List.setIfInBounds_toArray, List.set_cons_zero, List.set_cons_succ]
        refine wpAnyH_take (i := 14) (oi := { dst := some 49, op := Op.load 24 (Operand.tmp 48), type := 24, pos := "l08_writer.go:12", after := #[{ on := 13, ground := Ground.data }, { on := 11, ground := Ground.guard }], guard := some (11, false) }) (v := undef) rfl (by kernel_rfl) (by kernel_rfl) (by kernel_rfl) (fun _ _ _ h => h) (Or.inr ⟨by rfl, rfl⟩) (by assumption) ?_
        try simp only [Act.put, List.setIfInBounds_toArray, List.set_cons_zero, List.set_cons_succ]
        refine wpAnyH_take (i := 15) (oi := { dst := some 50, op := Op.call { callee := Callee.value (Operand.func 44), args := #[Operand.tmp 47, Operand.tmp 49], argTypes := #[26, 24] }, type := 4, pos := "l08_writer.go:12", after := #[{ on := 12, ground := Ground.data }, { on := 14, ground := Ground.data }, { on := 11, ground := Ground.chain }, { on := 11, ground := Ground.guard }], guard := some (11, false) }) (v := undef) rfl (by kernel_rfl) (by kernel_rfl) (by kernel_rfl) (fun _ _ _ h => h) (Or.inr ⟨by rfl, rfl⟩) (by assumption) ?_
        try simp only [Act.put, List.setIfInBounds_toArray, List.set_cons_zero, List.set_cons_succ]
        refine wpAnyH_take (i := 16) (oi := { dst := some 51, op := Op.fieldAddr 82 (Operand.tmp 7) 2, type := 0, pos := "l08_writer.go:12", after := #[{ on := 11, ground := Ground.guard }], guard := some (11, false) }) (v := undef) rfl (by kernel_rfl) (by kernel_rfl) (by kernel_rfl) (fun _ _ _ h => h) (Or.inr ⟨by rfl, rfl⟩) (by assumption) ?_
        try simp only [Act.put, List.setIfInBounds_toArray, List.set_cons_zero, List.set_cons_succ]
        refine wpAnyH_take (i := 17) (oi := { dst := some 52, op := Op.load 4 (Operand.tmp 51), type := 4, pos := "l08_writer.go:12", after := #[{ on := 16, ground := Ground.data }, { on := 11, ground := Ground.guard }], guard := some (11, false) }) (v := undef) rfl (by kernel_rfl) (by kernel_rfl) (by kernel_rfl) (fun _ _ _ h => h) (Or.inr ⟨by rfl, rfl⟩) (by assumption) ?_
        try simp only [Act.put, List.setIfInBounds_toArray, List.set_cons_zero, List.set_cons_succ]
        refine wpAnyH_take (i := 18) (oi := { dst := some 53, op := Op.binOp BinOp.neq 4 (Operand.tmp 50) (Operand.tmp 52) 4, type := 4, pos := "l08_writer.go:12", after := #[{ on := 15, ground := Ground.data }, { on := 17, ground := Ground.data }, { on := 11, ground := Ground.guard }], guard := some (11, false) }) (v := undef) rfl (by kernel_rfl) (by kernel_rfl) (by kernel_rfl) (fun _ _ _ h => h) (Or.inr ⟨by rfl, rfl⟩) (by assumption) ?_
        try simp only [Act.put, List.setIfInBounds_toArray, List.set_cons_zero, List.set_cons_succ]
        refine wpAnyH_take (i := 19) (oi := { dst := some 54, op := Op.pick (Operand.tmp 46) (Operand.const (Value.bool true)) (Operand.tmp 53), type := 4, pos := "l08_writer.go:12", after := #[{ on := 11, ground := Ground.data }, { on := 18, ground := Ground.data }], guard := none }) (v := ?_) rfl (by kernel_rfl) (by kernel_rfl) (by kernel_rfl) (fun _ _ _ h => h) (Or.inl ⟨by rfl, ?_⟩) (by assumption) ?_
        rotate_left 1
        · intro w hSw
          (try dsimp only at hSw)
          first | (go_simp; done) | (go_simp; with_reducible rfl)
        try simp only [Act.put, List.setIfInBounds_toArray, List.set_cons_zero, List.set_cons_succ]
        refine wpAnyH_done (by kernel_rfl) ?_ _
        refine NoPanic.normal ?_
        (try simp only [Act.put, List.setIfInBounds_toArray, List.set_cons_zero, List.set_cons_succ])
        go_wp2
        go_ret
        exact ⟨R, belowThen B2 bd⟩
      by_cases hN : nodesP ds cop yn
      · have CN1 := dHide fun W hB => retB_yes (dUnhide CNw W hB) hN
        have CHk' := CHw
        have HN := dHide hN
        clear CNw CHw hN
        refine wp_region_noPanic ?_
        refine wp_region_held_drew (S := fun W => W.cell? ⟨w.heap.size, 0, none⟩ = some (.slice ca ds.length cc) ∧ W.cell? ⟨w.heap.size, 1, none⟩ = some (.int .i64 cop) ∧ W.cell? ⟨eb, 0, none⟩ = some (.string yd) ∧ W.cell? ⟨eb, 1, none⟩ = some (.slice ya yn.length yc) ∧ W.cell? ⟨eb, 2, none⟩ = some (.bool yb)) (by kernel_rfl) (by first | exact dUnhide PC _ (Below.refl _ _) | exact dUnhide PC _ bd | exact dUnhide PC _ b3' | exact dUnhide PC _ b4') (fun hHeld => ?_)
        refine wpAnyH_take (i := 0) (oi := { dst := some 35, op := Op.fieldAddr 82 (Operand.tmp 7) 0, type := 0, pos := "l08_writer.go:12", after := #[], guard := none }) (v := ?_) rfl (by kernel_rfl) (by kernel_rfl) (by kernel_rfl) (fun _ _ _ h => h) (Or.inl ⟨by rfl, ?_⟩) (by assumption) ?_
        rotate_left 1
        · intro w hSw
          (try dsimp only at hSw)
          first | (go_simp; done) | (go_simp; with_reducible rfl)
        try simp only [Act.put, List.setIfInBounds_toArray, List.set_cons_zero, List.set_cons_succ]
        refine wpAnyH_take (i := 1) (oi := { dst := some 36, op := Op.load 9 (Operand.tmp 35), type := 9, pos := "l08_writer.go:12", after := #[{ on := 0, ground := Ground.data }], guard := none }) (v := ?_) rfl (by kernel_rfl) (by kernel_rfl) (by kernel_rfl) (fun _ _ _ h => h) (Or.inl ⟨by rfl, ?_⟩) (by assumption) ?_
        rotate_left 1
        · intro w hSw
          (try dsimp only at hSw)
          first | (go_simp; done) | (go_simp; with_reducible rfl)
        try simp only [Act.put, List.setIfInBounds_toArray, List.set_cons_zero, List.set_cons_succ]
        refine wpAnyH_take (i := 2) (oi := { dst := some 37, op := Op.call { callee := Callee.builtin Builtin.len, args := #[Operand.tmp 36], argTypes := #[9] }, type := 3, pos := "l08_writer.go:12", after := #[{ on := 1, ground := Ground.data }], guard := none }) (v := ?_) rfl (by kernel_rfl) (by kernel_rfl) (by kernel_rfl) (fun _ _ _ h => h) (Or.inl ⟨by rfl, ?_⟩) (by assumption) ?_
        rotate_left 1
        · intro w hSw
          (try dsimp only at hSw)
          first | (go_simp; done) | (go_simp; with_reducible rfl)
        try simp only [Act.put, List.setIfInBounds_toArray, List.set_cons_zero, List.set_cons_succ]
        refine wpAnyH_take (i := 3) (oi := { dst := some 38, op := Op.binOp BinOp.gtr 3 (Operand.tmp 37) (Operand.const (Value.int IntKind.i64 40)) 3, type := 4, pos := "l08_writer.go:12", after := #[{ on := 2, ground := Ground.data }], guard := none }) (v := ?_) rfl (by kernel_rfl) (by kernel_rfl) (by kernel_rfl) (fun _ _ _ h => h) (Or.inl ⟨by rfl, ?_⟩) (by assumption) ?_
        rotate_left 1
        · intro w hSw
          (try dsimp only at hSw)
          first | (go_simp; done) | (go_simp; with_reducible rfl)
        try simp only [Act.put, List.setIfInBounds_toArray, List.set_cons_zero, List.set_cons_succ]
        refine wpAnyH_take (i := 4) (oi := { dst := some 39, op := Op.move (Operand.tmp 38), type := 4, pos := "l08_writer.go:12", after := #[{ on := 3, ground := Ground.data }], guard := none }) (v := ?_) rfl (by kernel_rfl) (by kernel_rfl) (by kernel_rfl) (fun _ _ _ h => h) (Or.inl ⟨by rfl, ?_⟩) (by assumption) ?_
        rotate_left 1
        · intro w hSw
          (try dsimp only at hSw)
          first | (go_simp; done) | (go_simp; with_reducible rfl)
        try simp only [Act.put, List.setIfInBounds_toArray, List.set_cons_zero, List.set_cons_succ]
        refine wpAnyH_take (i := 5) (oi := { dst := some 40, op := Op.load 26 (Operand.tmp 2), type := 26, pos := "l08_writer.go:12", after := #[{ on := 4, ground := Ground.guard }], guard := some (4, false) }) (v := ?_) rfl (by kernel_rfl) (by kernel_rfl) (by kernel_rfl) (fun _ _ _ h => h) (Or.inl ⟨by rfl, ?_⟩) (by assumption) ?_
        rotate_left 1
        · intro w hSw
          (try dsimp only at hSw)
          first | (go_simp; done) | (go_simp; with_reducible rfl)
        try simp only [Act.put, List.setIfInBounds_toArray, List.set_cons_zero, List.set_cons_succ]
        refine wpAnyH_take (i := 6) (oi := { dst := some 41, op := Op.fieldAddr 82 (Operand.tmp 7) 1, type := 0, pos := "l08_writer.go:12", after := #[{ on := 4, ground := Ground.guard }], guard := some (4, false) }) (v := ?_) rfl (by kernel_rfl) (by kernel_rfl) (by kernel_rfl) (fun _ _ _ h => h) (Or.inl ⟨by rfl, ?_⟩) (by assumption) ?_
        rotate_left 1
        · intro w hSw
          (try dsimp only at hSw)
          first | (go_simp; done) | (go_simp; with_reducible rfl)
        try simp only [Act.put, List.setIfInBounds_toArray, List.set_cons_zero, List.set_cons_succ]
        refine wpAnyH_take (i := 7) (oi := { dst := some 42, op := Op.load 24 (Operand.tmp 41), type := 24, pos := "l08_writer.go:12", after := #[{ on := 6, ground := Ground.data }, { on := 4, ground := Ground.guard }], guard := some (4, false) }) (v := ?_) rfl (by kernel_rfl) (by kernel_rfl) (by kernel_rfl) (fun _ _ _ h => h) (Or.inl ⟨by rfl, ?_⟩) (by assumption) ?_
        rotate_left 1
        · intro w hSw
          (try dsimp only at hSw)
          first | (go_simp; done) | (go_simp; with_reducible rfl)
        try simp only [Act.put, List.setIfInBounds_toArray, List.set_cons_zero, List.set_cons_succ]
        refine wpAnyH_ready (rs := [8]) (by kernel_rfl) (by simp) ?_
        refine AllReadyH.cons (o := { dst := some 43, op := Op.call { callee := Callee.value (Operand.func 72), args := #[Operand.tmp 40, Operand.tmp 42], argTypes := #[26, 24] }, type := 4, pos := "l08_writer.go:12", after := #[{ on := 5, ground := Ground.data }, { on := 7, ground := Ground.data }, { on := 4, ground := Ground.chain }, { on := 4, ground := Ground.guard }], guard := some (4, false) }) rfl (fun K hK => ?_) AllReadyH.nil
        go_simp
        refine (dUnhide CN1 _ bd).mono ?_
        rintro e w3 ⟨rfl, b3⟩
        have b3' := belowThen bd b3
        (try go_wp2_with fail)
        refine hK.out _ _ (by first | exact dUnhide PC _ (Below.refl _ _) | exact dUnhide PC _ bd | exact dUnhide PC _ b3' | exact dUnhide PC _ b4') (fun hHeld => ?_)
        clear hK K
        try simp only [Act.put, List.setIfInBounds_toArray, List.set_cons_zero, List.set_cons_succ]
        refine wpAnyH_take (i := 9) (oi := { dst := some 44, op := Op.unOp UnOp.not 4 (Operand.tmp 43), type := 4, pos := "l08_writer.go:12", after := #[{ on := 8, ground := Ground.data }, { on := 4, ground := Ground.guard }], guard := some (4, false) }) (v := ?_) rfl (by kernel_rfl) (by kernel_rfl) (by kernel_rfl) (fun _ _ _ h => h) (Or.inl ⟨by rfl, ?_⟩) (by assumption) ?_
        rotate_left 1
        · intro w hSw
          (try dsimp only at hSw)
          first | (go_simp; done) | (go_simp; with_reducible rfl)
        try simp only [Act.put, List.setIfInBounds_toArray, List.set_cons_zero, List.set_cons_succ]
        refine wpAnyH_take (i := 10) (oi := { dst := some 45, op := Op.pick (Operand.tmp 39) (Operand.const (Value.bool true)) (Operand.tmp 44), type := 4, pos := "l08_writer.go:12", after := #[{ on := 4, ground := Ground.data }, { on := 9, ground := Ground.data }], guard := none }) (v := ?_) rfl (by kernel_rfl) (by kernel_rfl) (by kernel_rfl) (fun _ _ _ h => h) (Or.inl ⟨by rfl, ?_⟩) (by assumption) ?_
        rotate_left 1
        · intro w hSw
          (try dsimp only at hSw)
          first | (go_simp; done) | (go_simp; with_reducible rfl)
        try simp only [Act.put, List.setIfInBounds_toArray, List.set_cons_zero, List.set_cons_succ]
        refine wpAnyH_take (i := 11) (oi := { dst := some 46, op := Op.move (Operand.tmp 45), type := 4, pos := "l08_writer.go:12", after := #[{ on := 10, ground := Ground.data }, { on := 8, ground := Ground.chain }], guard := none }) (v := ?_) rfl (by kernel_rfl) (by kernel_rfl) (by kernel_rfl) (fun _ _ _ h => h) (Or.inl ⟨by rfl, ?_⟩) (by assumption) ?_
        rotate_left 1
        · intro w hSw
          (try dsimp only at hSw)
          first | (go_simp; done) | (go_simp; with_reducible rfl)
        try simp only [Act.put, List.setIfInBounds_toArray, List.set_cons_zero, List.set_cons_succ]
        refine wpAnyH_take (i := 12) (oi := { dst := some 47, op := Op.load 26 (Operand.tmp 2), type := 26, pos := "l08_writer.go:12", after := #[{ on := 11, ground := Ground.guard }], guard := some (11, false) }) (v := ?_) rfl (by kernel_rfl) (by kernel_rfl) (by kernel_rfl) (fun _ _ _ h => h) (Or.inl ⟨by rfl, ?_⟩) (by assumption) ?_
        rotate_left 1
        · intro w hSw
          (try dsimp only at hSw)
          first | (go_simp; done) | (go_simp; with_reducible rfl)
        try simp only [Act.put, List.setIfInBounds_toArray, List.set_cons_zero, List.set_cons_succ]
        refine wpAnyH_take (i := 13) (oi := { dst := some 48, op := Op.fieldAddr 82 (Operand.tmp 7) 1, type := 0, pos := "l08_writer.go:12", after := #[{ on := 11, ground := Ground.guard }], guard := some (11, false) }) (v := ?_) rfl (by kernel_rfl) (by kernel_rfl) (by kernel_rfl) (fun _ _ _ h => h) (Or.inl ⟨by rfl, ?_⟩) (by assumption) ?_
        rotate_left 1
        · intro w hSw
          (try dsimp only at hSw)
          first | (go_simp; done) | (go_simp; with_reducible rfl)
        try simp only [Act.put, List.setIfInBounds_toArray, List.set_cons_zero, List.set_cons_succ]
        refine wpAnyH_take (i := 14) (oi := { dst := some 49, op := Op.load 24 (Operand.tmp 48), type := 24, pos := "l08_writer.go:12", after := #[{ on := 13, ground := Ground.data }, { on := 11, ground := Ground.guard }], guard := some (11, false) }) (v := ?_) rfl (by kernel_rfl) (by kernel_rfl) (by kernel_rfl) (fun _ _ _ h => h) (Or.inl ⟨by rfl, ?_⟩) (by assumption) ?_
        rotate_left 1
        · intro w hSw
          (try dsimp only at hSw)
          first | (go_simp; done) | (go_simp; with_reducible rfl)
        try simp only [Act.put, List.setIfInBounds_toArray, List.set_cons_zero, List.set_cons_succ]
        refine wpAnyH_take (i := 16) (oi := { dst := some 51, op := Op.fieldAddr 82 (Operand.tmp 7) 2, type := 0, pos := "l08_writer.go:12", after := #[{ on := 11, ground := Ground.guard }], guard := some (11, false) }) (v := ?_) rfl (by kernel_rfl) (by kernel_rfl) (by kernel_rfl) (fun _ _ _ h => h) (Or.inl ⟨by rfl, ?_⟩) (by assumption) ?_
        rotate_left 1
        · intro w hSw
          (try dsimp only at hSw)
          first | (go_simp; done) | (go_simp; with_reducible rfl)
        try simp only [Act.put, List.setIfInBounds_toArray, List.set_cons_zero, List.set_cons_succ]
        refine wpAnyH_take (i := 17) (oi := { dst := some 52, op := Op.load 4 (Operand.tmp 51), type := 4, pos := "l08_writer.go:12", after := #[{ on := 16, ground := Ground.data }, { on := 11, ground := Ground.guard }], guard := some (11, false) }) (v := ?_) rfl (by kernel_rfl) (by kernel_rfl) (by kernel_rfl) (fun _ _ _ h => h) (Or.inl ⟨by rfl, ?_⟩) (by assumption) ?_
        rotate_left 1
        · intro w hSw
          (try dsimp only at hSw)
          first | (go_simp; done) | (go_simp; with_reducible rfl)
        try simp only [Act.put, List.setIfInBounds_toArray, List.set_cons_zero, List.set_cons_succ]
        refine wpAnyH_ready (rs := [15]) (by kernel_rfl) (by simp) ?_
        refine AllReadyH.cons (o := { dst := some 50, op := Op.call { callee := Callee.value (Operand.func 44), args := #[Operand.tmp 47, Operand.tmp 49], argTypes := #[26, 24] }, type := 4, pos := "l08_writer.go:12", after := #[{ on := 12, ground := Ground.data }, { on := 14, ground := Ground.data }, { on := 11, ground := Ground.chain }, { on := 11, ground := Ground.guard }], guard := some (11, false) }) rfl (fun K hK => ?_) AllReadyH.nil
        go_simp
        refine (dUnhide CHk' _ b3').mono ?_
        rintro e w4 ⟨⟨bq, rfl, h4⟩, b4⟩
        have b4' := belowThen b3' b4
        (try go_wp2_with fail)
        refine hK.out _ _ (by first | exact dUnhide PC _ (Below.refl _ _) | exact dUnhide PC _ bd | exact dUnhide PC _ b3' | exact dUnhide PC _ b4') (fun hHeld => ?_)
        clear hK K
        try simp only [Act.put, List.setIfInBounds_toArray, List.set_cons_zero, List.set_cons_succ]
        refine wpAnyH_take (i := 18) (oi := { dst := some 53, op := Op.binOp BinOp.neq 4 (Operand.tmp 50) (Operand.tmp 52) 4, type := 4, pos := "l08_writer.go:12", after := #[{ on := 15, ground := Ground.data }, { on := 17, ground := Ground.data }, { on := 11, ground := Ground.guard }], guard := some (11, false) }) (v := ?_) rfl (by kernel_rfl) (by kernel_rfl) (by kernel_rfl) (fun _ _ _ h => h) (Or.inl ⟨by rfl, ?_⟩) (by assumption) ?_
        rotate_left 1
        · intro w hSw
          (try dsimp only at hSw)
          first | (go_simp; done) | (go_simp; with_reducible rfl)
        try simp only [Act.put, List.setIfInBounds_toArray, List.set_cons_zero, List.set_cons_succ]
        refine wpAnyH_take (i := 19) (oi := { dst := some 54, op := Op.pick (Operand.tmp 46) (Operand.const (Value.bool true)) (Operand.tmp 53), type := 4, pos := "l08_writer.go:12", after := #[{ on := 11, ground := Ground.data }, { on := 18, ground := Ground.data }], guard := none }) (v := ?_) rfl (by kernel_rfl) (by kernel_rfl) (by kernel_rfl) (fun _ _ _ h => h) (Or.inl ⟨by rfl, ?_⟩) (by assumption) ?_
        rotate_left 1
        · intro w hSw
          (try dsimp only at hSw)
          first | (go_simp; done) | (go_simp; with_reducible rfl)
        try simp only [Act.put, List.setIfInBounds_toArray, List.set_cons_zero, List.set_cons_succ]
        refine wpAnyH_done (by kernel_rfl) ?_ _
        refine NoPanic.normal ?_
        (try simp only [Act.put, List.setIfInBounds_toArray, List.set_cons_zero, List.set_cons_succ])
        have B4 := belowThen B2 b4'
        have X4 := dHide ((dUnhide X2).below b4')
        have Y4 := dHide ((dUnhide Y2).below b4')
        have e2 := (dUnhide PC _ b4').2.2.2.2
        clear X2 Y2 E2 PC
        cases bq <;> cases yb
        · have G := dHide (dUnhide GYk ⟨by omega, dUnhide HN, fun h => h4.2 h, fun h => by cases h⟩)
          have O2 : Hid (q + 1 = openN ((rs.map Nst.m).take (k + 1))) := by rw [Hid, dUnhide OS]; rfl
          clear GYk GNk h4 OS
          go_wp2
          go_roundw
          case rel => exact ⟨k + 1, q + 1, by go_num, by go_num, by omega, by omega, O2, G, X4, Y4, B4⟩
          case measure => simp [intOf]; omega
        · have R : RetB P (.returned (.bool false)) := RetB.no (dUnhide GNk fun h => by have := h4.2 (h.2.2.2 rfl); cases this)
          clear GYk GNk h4 OS
          go_wp2
          go_ret
          exact ⟨R, B4⟩
        · have R : RetB P (.returned (.bool false)) := RetB.no (dUnhide GNk fun h => by have := h.2.2.1 (h4.1 rfl); cases this)
          clear GYk GNk h4 OS
          go_wp2
          go_ret
          exact ⟨R, B4⟩
        · have G := dHide (dUnhide GYk ⟨by omega, dUnhide HN, fun _ => rfl, fun _ => h4.1 rfl⟩)
          have O2 : Hid (q = openN ((rs.map Nst.m).take (k + 1))) := by rw [Hid, dUnhide OS]; rfl
          clear GYk GNk h4 OS
          go_wp2
          go_roundw
          case rel => exact ⟨k + 1, q, by go_num, by go_num, by omega, by omega, O2, G, X4, Y4, B4⟩
          case measure => simp [intOf]; omega
      · have CN1 := dHide fun W hB => retB_no (dUnhide CNw W hB) hN
        have R : RetB P (.returned (.bool false)) := RetB.no (dUnhide GNk fun h => hN h.2.1)
        clear GYk GNk OS CNw CHw
        refine wp_region_noPanic ?_
        refine wp_region_held_drew (S := fun W => W.cell? ⟨w.heap.size, 0, none⟩ = some (.slice ca ds.length cc) ∧ W.cell? ⟨w.heap.size, 1, none⟩ = some (.int .i64 cop) ∧ W.cell? ⟨eb, 0, none⟩ = some (.string yd) ∧ W.cell? ⟨eb, 1, none⟩ = some (.slice ya yn.length yc) ∧ W.cell? ⟨eb, 2, none⟩ = some (.bool yb)) (by kernel_rfl) (by first | exact dUnhide PC _ (Below.refl _ _) | exact dUnhide PC _ bd | exact dUnhide PC _ b3' | exact dUnhide PC _ b4') (fun hHeld => ?_)
        refine wpAnyH_take (i := 0) (oi := { dst := some 35, op := Op.fieldAddr 82 (Operand.tmp 7) 0, type := 0, pos := "l08_writer.go:12", after := #[], guard := none }) (v := ?_) rfl (by kernel_rfl) (by kernel_rfl) (by kernel_rfl) (fun _ _ _ h => h) (Or.inl ⟨by rfl, ?_⟩) (by assumption) ?_
        rotate_left 1
        · intro w hSw
          (try dsimp only at hSw)
          first | (go_simp; done) | (go_simp; with_reducible rfl)
        try simp only [Act.put, List.setIfInBounds_toArray, List.set_cons_zero, List.set_cons_succ]
        refine wpAnyH_take (i := 1) (oi := { dst := some 36, op := Op.load 9 (Operand.tmp 35), type := 9, pos := "l08_writer.go:12", after := #[{ on := 0, ground := Ground.data }], guard := none }) (v := ?_) rfl (by kernel_rfl) (by kernel_rfl) (by kernel_rfl) (fun _ _ _ h => h) (Or.inl ⟨by rfl, ?_⟩) (by assumption) ?_
        rotate_left 1
        · intro w hSw
          (try dsimp only at hSw)
          first | (go_simp; done) | (go_simp; with_reducible rfl)
        try simp only [Act.put, List.setIfInBounds_toArray, List.set_cons_zero, List.set_cons_succ]
        refine wpAnyH_take (i := 2) (oi := { dst := some 37, op := Op.call { callee := Callee.builtin Builtin.len, args := #[Operand.tmp 36], argTypes := #[9] }, type := 3, pos := "l08_writer.go:12", after := #[{ on := 1, ground := Ground.data }], guard := none }) (v := ?_) rfl (by kernel_rfl) (by kernel_rfl) (by kernel_rfl) (fun _ _ _ h => h) (Or.inl ⟨by rfl, ?_⟩) (by assumption) ?_
        rotate_left 1
        · intro w hSw
          (try dsimp only at hSw)
          first | (go_simp; done) | (go_simp; with_reducible rfl)
        try simp only [Act.put, List.setIfInBounds_toArray, List.set_cons_zero, List.set_cons_succ]
        refine wpAnyH_take (i := 3) (oi := { dst := some 38, op := Op.binOp BinOp.gtr 3 (Operand.tmp 37) (Operand.const (Value.int IntKind.i64 40)) 3, type := 4, pos := "l08_writer.go:12", after := #[{ on := 2, ground := Ground.data }], guard := none }) (v := ?_) rfl (by kernel_rfl) (by kernel_rfl) (by kernel_rfl) (fun _ _ _ h => h) (Or.inl ⟨by rfl, ?_⟩) (by assumption) ?_
        rotate_left 1
        · intro w hSw
          (try dsimp only at hSw)
          first | (go_simp; done) | (go_simp; with_reducible rfl)
        try simp only [Act.put, List.setIfInBounds_toArray, List.set_cons_zero, List.set_cons_succ]
        refine wpAnyH_take (i := 4) (oi := { dst := some 39, op := Op.move (Operand.tmp 38), type := 4, pos := "l08_writer.go:12", after := #[{ on := 3, ground := Ground.data }], guard := none }) (v := ?_) rfl (by kernel_rfl) (by kernel_rfl) (by kernel_rfl) (fun _ _ _ h => h) (Or.inl ⟨by rfl, ?_⟩) (by assumption) ?_
        rotate_left 1
        · intro w hSw
          (try dsimp only at hSw)
          first | (go_simp; done) | (go_simp; with_reducible rfl)
        try simp only [Act.put, List.setIfInBounds_toArray, List.set_cons_zero, List.set_cons_succ]
        refine wpAnyH_take (i := 5) (oi := { dst := some 40, op := Op.load 26 (Operand.tmp 2), type := 26, pos := "l08_writer.go:12", after := #[{ on := 4, ground := Ground.guard }], guard := some (4, false) }) (v := ?_) rfl (by kernel_rfl) (by kernel_rfl) (by kernel_rfl) (fun _ _ _ h => h) (Or.inl ⟨by rfl, ?_⟩) (by assumption) ?_
        rotate_left 1
        · intro w hSw
          (try dsimp only at hSw)
          first | (go_simp; done) | (go_simp; with_reducible rfl)
        try simp only [Act.put, List.setIfInBounds_toArray, List.set_cons_zero, List.set_cons_succ]
        refine wpAnyH_take (i := 6) (oi := { dst := some 41, op := Op.fieldAddr 82 (Operand.tmp 7) 1, type := 0, pos := "l08_writer.go:12", after := #[{ on := 4, ground := Ground.guard }], guard := some (4, false) }) (v := ?_) rfl (by kernel_rfl) (by kernel_rfl) (by kernel_rfl) (fun _ _ _ h => h) (Or.inl ⟨by rfl, ?_⟩) (by assumption) ?_
        rotate_left 1
        · intro w hSw
          (try dsimp only at hSw)
          first | (go_simp; done) | (go_simp; with_reducible rfl)
        try simp only [Act.put, List.setIfInBounds_toArray, List.set_cons_zero, List.set_cons_succ]
        refine wpAnyH_take (i := 7) (oi := { dst := some 42, op := Op.load 24 (Operand.tmp 41), type := 24, pos := "l08_writer.go:12", after := #[{ on := 6, ground := Ground.data }, { on := 4, ground := Ground.guard }], guard := some (4, false) }) (v := ?_) rfl (by kernel_rfl) (by kernel_rfl) (by kernel_rfl) (fun _ _ _ h => h) (Or.inl ⟨by rfl, ?_⟩) (by assumption) ?_
        rotate_left 1
        · intro w hSw
          (try dsimp only at hSw)
          first | (go_simp; done) | (go_simp; with_reducible rfl)
        try simp only [Act.put, List.setIfInBounds_toArray, List.set_cons_zero, List.set_cons_succ]
        refine wpAnyH_ready (rs := [8]) (by kernel_rfl) (by simp) ?_
        refine AllReadyH.cons (o := { dst := some 43, op := Op.call { callee := Callee.value (Operand.func 72), args := #[Operand.tmp 40, Operand.tmp 42], argTypes := #[26, 24] }, type := 4, pos := "l08_writer.go:12", after := #[{ on := 5, ground := Ground.data }, { on := 7, ground := Ground.data }, { on := 4, ground := Ground.chain }, { on := 4, ground := Ground.guard }], guard := some (4, false) }) rfl (fun K hK => ?_) AllReadyH.nil
        go_simp
        refine (dUnhide CN1 _ bd).mono ?_
        rintro e w3 ⟨rfl, b3⟩
        have b3' := belowThen bd b3
        (try go_wp2_with fail)
        refine hK.out _ _ (by first | exact dUnhide PC _ (Below.refl _ _) | exact dUnhide PC _ bd | exact dUnhide PC _ b3' | exact dUnhide PC _ b4') (fun hHeld => ?_)
        clear hK K
        try simp only [Act.put, List.setIfInBounds_toArray, List.set_cons_zero, List.set_cons_succ]
        refine wpAnyH_take (i := 9) (oi := { dst := some 44, op := Op.unOp UnOp.not 4 (Operand.tmp 43), type := 4, pos := "l08_writer.go:12", after := #[{ on := 8, ground := Ground.data }, { on := 4, ground := Ground.guard }], guard := some (4, false) }) (v := ?_) rfl (by kernel_rfl) (by kernel_rfl) (by kernel_rfl) (fun _ _ _ h => h) (Or.inl ⟨by rfl, ?_⟩) (by assumption) ?_
        rotate_left 1
        · intro w hSw
          (try dsimp only at hSw)
          first | (go_simp; done) | (go_simp; with_reducible rfl)
        try simp only [Act.put, List.setIfInBounds_toArray, List.set_cons_zero, List.set_cons_succ]
        refine wpAnyH_take (i := 10) (oi := { dst := some 45, op := Op.pick (Operand.tmp 39) (Operand.const (Value.bool true)) (Operand.tmp 44), type := 4, pos := "l08_writer.go:12", after := #[{ on := 4, ground := Ground.data }, { on := 9, ground := Ground.data }], guard := none }) (v := ?_) rfl (by kernel_rfl) (by kernel_rfl) (by kernel_rfl) (fun _ _ _ h => h) (Or.inl ⟨by rfl, ?_⟩) (by assumption) ?_
        rotate_left 1
        · intro w hSw
          (try dsimp only at hSw)
          first | (go_simp; done) | (go_simp; with_reducible rfl)
        try simp only [Act.put, List.setIfInBounds_toArray, List.set_cons_zero, List.set_cons_succ]
        refine wpAnyH_take (i := 11) (oi := { dst := some 46, op := Op.move (Operand.tmp 45), type := 4, pos := "l08_writer.go:12", after := #[{ on := 10, ground := Ground.data }, { on := 8, ground := Ground.chain }], guard := none }) (v := ?_) rfl (by kernel_rfl) (by kernel_rfl) (by kernel_rfl) (fun _ _ _ h => h) (Or.inl ⟨by rfl, ?_⟩) (by assumption) ?_
        rotate_left 1
        · intro w hSw
          (try dsimp only at hSw)
          first | (go_simp; done) | (go_simp; with_reducible rfl)
        try simp only [Act.put, List.setIfInBounds_toArray, List.set_cons_zero, List.set_cons_succ]
        refine wpAnyH_take (i := 12) (oi := { dst := some 47, op := Op.load 26 (Operand.tmp 2), type := 26, pos := "l08_writer.go:12", after := #[{ on := 11, ground := Ground.guard }], guard := some (11, false) }) (v := undef) rfl (by kernel_rfl) (by kernel_rfl) (by kernel_rfl) (fun _ _ _ h => h) (Or.inr ⟨by rfl, rfl⟩) (by assumption) ?_
        try simp only [Act.put, List.setIfInBounds_toArray, List.set_cons_zero, List.set_cons_succ]
        refine wpAnyH_take (i := 13) (oi := { dst := some 48, op := Op.fieldAddr 82 (Operand.tmp 7) 1, type := 0, pos := "l08_writer.go:12", after := #[{ on := 11, ground := Ground.guard }], guard := some (11, false) }) (v := undef) rfl (by kernel_rfl) (by kernel_rfl) (by kernel_rfl) (fun _ _ _ h => h) (Or.inr ⟨by rfl, rfl⟩) (by assumption) ?_
        try simp only [Act.put, List.setIfInBounds_toArray, List.set_cons_zero, List.set_cons_succ]
        refine wpAnyH_take (i := 14) (oi := { dst := some 49, op := Op.load 24 (Operand.tmp 48), type := 24, pos := "l08_writer.go:12", after := #[{ on := 13, ground := Ground.data }, { on := 11, ground := Ground.guard }], guard := some (11, false) }) (v := undef) rfl (by kernel_rfl) (by kernel_rfl) (by kernel_rfl) (fun _ _ _ h => h) (Or.inr ⟨by rfl, rfl⟩) (by assumption) ?_
        try simp only [Act.put, List.setIfInBounds_toArray, List.set_cons_zero, List.set_cons_succ]
        refine wpAnyH_take (i := 15) (oi := { dst := some 50, op := Op.call { callee := Callee.value (Operand.func 44), args := #[Operand.tmp 47, Operand.tmp 49], argTypes := #[26, 24] }, type := 4, pos := "l08_writer.go:12", after := #[{ on := 12, ground := Ground.data }, { on := 14, ground := Ground.data }, { on := 11, ground := Ground.chain }, { on := 11, ground := Ground.guard }], guard := some (11, false) }) (v := undef) rfl (by kernel_rfl) (by kernel_rfl) (by kernel_rfl) (fun _ _ _ h => h) (Or.inr ⟨by rfl, rfl⟩) (by assumption) ?_
        try simp only [Act.put, List.setIfInBounds_toArray, List.set_cons_zero, List.set_cons_succ]
        refine wpAnyH_take (i := 16) (oi := { dst := some 51, op := Op.fieldAddr 82 (Operand.tmp 7) 2, type := 0, pos := "l08_writer.go:12", after := #[{ on := 11, ground := Ground.guard }], guard := some (11, false) }) (v := undef) rfl (by kernel_rfl) (by kernel_rfl) (by kernel_rfl) (fun _ _ _ h => h) (Or.inr ⟨by rfl, rfl⟩) (by assumption) ?_
        try simp only [Act.put, List.setIfInBounds_toArray, List.set_cons_zero, List.set_cons_succ]
        refine wpAnyH_take (i := 17) (oi := { dst := some 52, op := Op.load 4 (Operand.tmp 51), type := 4, pos := "l08_writer.go:12", after := #[{ on := 16, ground := Ground.data }, { on := 11, ground := Ground.guard }], guard := some (11, false) }) (v := undef) rfl (by kernel_rfl) (by kernel_rfl) (by kernel_rfl) (fun _ _ _ h => h) (Or.inr ⟨by rfl, rfl⟩) (by assumption) ?_
        try simp only [Act.put, List.setIfInBounds_toArray, List.set_cons_zero, List.set_cons_succ]
        refine wpAnyH_take (i := 18) (oi := { dst := some 53, op := Op.binOp BinOp.neq 4 (Operand.tmp 50) (Operand.tmp 52) 4, type := 4, pos := "l08_writer.go:12", after := #[{ on := 15, ground := Ground.data }, { on := 17, ground := Ground.data }, { on := 11, ground := Ground.guard }], guard := some (11, false) }) (v := undef) rfl (by kernel_rfl) (by kernel_rfl) (by kernel_rfl) (fun _ _ _ h => h) (Or.inr ⟨by rfl, rfl⟩) (by assumption) ?_
        try simp only [Act.put, List.setIfInBounds_toArray, List.set_cons_zero, List.set_cons_succ]
        refine wpAnyH_take (i := 19) (oi := { dst := some 54, op := Op.pick (Operand.tmp 46) (Operand.const (Value.bool true)) (Operand.tmp 53), type := 4, pos := "l08_writer.go:12", after := #[{ on := 11, ground := Ground.data }, { on := 18, ground := Ground.data }], guard := none }) (v := ?_) rfl (by kernel_rfl) (by kernel_rfl) (by kernel_rfl) (fun _ _ _ h => h) (Or.inl ⟨by rfl, ?_⟩) (by assumption) ?_
        rotate_left 1
        · intro w hSw
          (try dsimp only at hSw)
          first | (go_simp; done) | (go_simp; with_reducible rfl)
        try simp only [Act.put, List.setIfInBounds_toArray, List.set_cons_zero, List.set_cons_succ]
        refine wpAnyH_done (by kernel_rfl) ?_ _
        refine NoPanic.normal ?_
        (try simp only [Act.put, List.setIfInBounds_toArray, List.set_cons_zero, List.set_cons_succ])
        go_wp2
        go_ret
        exact ⟨R, belowThen B2 b3'⟩
    · have e1 : k = rs.length := by omega
      have e2 : Hid ((q : Int) = (openN (rs.map Nst.m) : Int)) := by
        have h1 := dUnhide hqo
        rw [e1, dUnhide GT] at h1
        rw [Hid, h1]
      by_cases h6 : (q : Int) ≤ 6
      · have R : RetB P (.returned (.bool true)) := RetB.yes (dUnhide GY (fun i hi _ => dUnhide hcd i hi (by omega)) (by have := dUnhide e2; omega))
        clear hcd GN GY GM GT e2 hqo
        go_wp2
        go_ret
        exact ⟨R, hb⟩
      · have R : RetB P (.returned (.bool false)) := RetB.no (dUnhide GM (by have := dUnhide e2; omega))
        clear hcd GN GY GM GT e2 hqo
        go_wp2
        go_ret
        exact ⟨R, hb⟩
end Go.Proofs.YthndkkjgjhgdnaaGreatDoor
