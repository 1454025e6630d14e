/- The walk of the law FnOpened (printed by tools/mkl7o.py). -/
import Derived.Test.YtfipenjojgflmaaDoorOpA
import Derived.Test.YtfipenjojgflmaaDoorRgR
import Derived.Test.YtfipenjojgflmaaDoorImGj
import Derived.Test.YtfipenjojgflmaaDoorBigB
import Derived.Test.YtfipenjojgflmaaDoorGaA
import Derived.Test.YtfipenjojgflmaaDoorWithN
namespace Go.Proofs.YtfipenjojgflmaaDoor
open Go.ChangeShapes Go.WideShapes Go.ChangeAt Go.RowKit
set_option linter.unusedVariables false
set_option linter.unusedSimpArgs false
set_option maxRecDepth 100000

set_option maxHeartbeats 8000000 in
theorem walkOpened (a0 : Option Addr) (len0 cap0 : Nat) (w : World) (hr : Row8 w a0 len0) (e0 e1 : Addr) (hS : Snt w e0 e1) :
    Calls Tryd.prog 3 #[.slice a0 len0 cap0] w fun e w' => e = .returned (.bool true) ∧ Below w.heap.size w w' := by
  have hlen := hr.1
  by_cases hbig : 1048576 < len0
  · have CB := dHide (big_yes a0 len0 cap0 hbig hlen)
    go_enter Tryd.func3, Tryd.ntmps3
    go_wp2_with fail
    refine (dUnhide CB _).mono ?_
    rintro e w1 ⟨rfl, rfl⟩
    go_wp2
    go_ret
    exact ⟨rfl, Below.refl _ _⟩
  have CB := dHide (big_no a0 len0 cap0 hbig)
  have CD := dHide (drawRegOpen_any a0 len0 cap0 w hr)
  have ba : ∀ (w : World) o, Below w.heap.size w (w.alloc o) := fun w o => (Below.refl _ _).alloc (Nat.le_refl _) o
  clear hbig hr
  go_enter Tryd.func3, Tryd.ntmps3
  go_wp2_with fail
  refine (dUnhide CB _).mono ?_
  rintro e w1 ⟨rfl, rfl⟩
  clear CB
  go_wp2_with fail
  refine (dUnhide CD).mono ?_
  rintro e w4 ⟨⟨cv, rv, ds, cop, m, nv, zs, rfl, ⟨⟨ca, cc, rfl, N1⟩, hdl, hdd, hcop, ⟨a, c, rfl⟩, R1, hf⟩, V1, hzl, hzz⟩, B1⟩
  have okc : okConfig (ds, cop) := ⟨fun d hd => by have := hdd d hd; omega, by show -9223372036854775808 ≤ cop; omega, by show cop ≤ 9223372036854775807; omega⟩
  have hsc : sizConfig (ds, cop) ≤ 1048576 := by show ds.length ≤ 1048576; omega
  have haz : allInt zs := fun z hz => by have := hzz z hz; omega
  have V1' := V1
  obtain ⟨-, na, nc, rfl, -, -⟩ := V1'
  have bA := ba w4 (.cells #[.slice ca ds.length cc, .int .i64 cop] 26)
  have bB := ba (w4.alloc (.cells #[.slice ca ds.length cc, .int .i64 cop] 26)) (.cells #[.slice a m.eras.length c, .int .i64 m.trim] 29)
  have bb := belowThen bA bB
  have X2 := (Bx.new w4 [.slice ca ds.length cc, .int .i64 cop] 26).below bB
  have Y2 := Bx.new (w4.alloc (.cells #[.slice ca ds.length cc, .int .i64 cop] 26)) [.slice a m.eras.length c, .int .i64 m.trim] 29
  rw [show (w4.alloc (.cells #[.slice ca ds.length cc, .int .i64 cop] 26)).heap.size = w4.heap.size + 1 from by simp] at Y2
  have N2 := N1.below bb
  have V2 := V1.below bb
  have R2 := R1.below bb
  have B2 := belowThen B1 bb
  have S2 := hS.below B2 (Nat.le_refl _)
  clear bA bB N1 R1 B1 bb V1 CD
  go_wp2_with fail
  generalize (w4.alloc (.cells #[.slice ca ds.length cc, .int .i64 cop] 26)).alloc (.cells #[.slice a m.eras.length c, .int .i64 m.trim] 29) = w5 at *
  have C1 := implRegOpen_any _ _ _ (ds, cop) m zs w5 e0 e1 S2 ⟨_, rfl, N2⟩ R2 V2 haz (by omega) okc hf.ok hsc (hf.siz (by omega))
  have C2 := fun W (hb : Below w5.heap.size w5 W) => specRegOpen_any _ _ (ds, cop) m _ zs W ⟨_, rfl, N2.below hb⟩ (R2.below hb) (V2.below hb) (by omega) hf.ok (hf.siz (by omega))
  have CO := fun W (hb : Below w5.heap.size w5 W) v' m' (hv : RdRegister v' m' W) ok hs => implRegOk_any (.agg #[.slice ca ds.length cc, .int .i64 cop]) v' (ds, cop) m' W ⟨_, rfl, N2.below hb⟩ hv okc ok hsc hs
  have TF : Hid ((openM ds cop m zs).2.2 = false → (openM ds cop m zs).1 = m ∨ (openM ds cop m zs).1 = zeroRg) := open_false
  have TT : Hid ((openM ds cop m zs).2.2 = true → (openM ds cop m zs).1 = ⟨m.eras ++ [⟨zs, false, 0⟩], m.trim⟩ ∧ (openM ds cop m zs).2.1 = (m.eras.length : Int) + 1 ∧ regP ds cop ⟨m.eras ++ [⟨zs, false, 0⟩], m.trim⟩) := open_done
  simp only at C1 C2 CO
  generalize openM ds cop m zs = T at *
  obtain ⟨n, ep, nb⟩ := T
  simp only at *
  replace C1 := dHide C1
  replace C2 := dHide C2
  replace CO := dHide CO
  refine (dUnhide C1).mono ?_
  rintro e w6 ⟨⟨u3, rfl, O3⟩, b3⟩
  obtain ⟨a3, c3, rfl, P3⟩ := O3.shape
  have bC := ba w6 (.cells #[.slice a3 n.eras.length c3, .int .i64 n.trim] 29)
  have b4 := belowThen b3 bC
  have X4 := X2.below b4
  have Y4 := Y2.below b4
  have Z4 := Bx.new w6 [.slice a3 n.eras.length c3, .int .i64 n.trim] 29
  have R4 := P3.rd.below bC
  have B4 := belowThen B2 b4
  have C24 := dHide (dUnhide C2 _ b4)
  have x0 := X4 0 _ rfl
  have x1 := X4 1 _ rfl
  have y0 := Y4 0 _ rfl
  have y1 := Y4 1 _ rfl
  clear C1 C2 O3 P3 X2 Y2 B2 b3 bC S2
  go_wp2_with fail
  generalize hnb : w6.heap.size = nx at *
  generalize w6.alloc (.cells #[.slice a3 n.eras.length c3, .int .i64 n.trim] 29) = w7 at *
  refine (dUnhide C24).mono ?_
  rintro e w8 ⟨⟨u5, rfl, O5⟩, b5⟩
  obtain ⟨a5, c5, rfl, -⟩ := O5.shape
  have bD := ba w8 (.cells #[.slice a5 n.eras.length c5, .int .i64 n.trim] 29)
  have b6 := belowThen b5 bD
  have b46 := belowThen b4 b6
  have X6 := X4.below b6
  have Y6 := Y4.below b6
  have Z6 := Z4.below b6
  have R6 := R4.below b6
  have B6 := belowThen B4 b6
  have RM := R2.below b46
  have V6 := V2.below b46
  clear C24 O5 X4 Y4 Z4 R4 B4 b5 bD x0 x1 y0 y1 b6 b4 R2 N2 V2
  have x0 := X6 0 _ rfl
  have x1 := X6 1 _ rfl
  have y0 := Y6 0 _ rfl
  have z0' := Z6 0 _ rfl
  cases nb
  · have hT := dUnhide TF rfl
    clear TF TT
    rcases hT with rfl | rfl
    · go_wp2
      go_ret
      exact ⟨rfl, B6⟩
    · have ez : zeroRg.eras.length = 0 := rfl
      have ez2 : zeroRg.trim = 0 := rfl
      simp only [ez, ez2] at *
      by_cases hs0 : m.eras.length = 0
      · simp only [hs0] at *
        go_wp2
        go_ret
        exact ⟨rfl, B6⟩
      · have hbn : ((0 : Int) == (m.eras.length : Int)) = false := by
          rw [beq_eq_false_iff_ne]
          omega
        go_wp2
        go_ret
        exact ⟨rfl, B6⟩
  obtain ⟨hn, hep, hreg⟩ := dUnhide TT rfl
  clear TF TT
  have hel : m.eras.length ≤ 1000 := by have := hf.1; omega
  have hfn : fitD 41 n := by rw [hn]; exact fitD_open hf hzl hzz
  have hnl : n.eras.length = m.eras.length + 1 := by rw [hn]; simp
  have hreg' : regP ds cop n := by rw [hn]; exact hreg
  have HE : Hid (∀ i (hi : i < m.eras.length) (hi' : i < n.eras.length), n.eras[i] = m.eras[i]) := fun i hi hi' => by
    simp only [hn]
    exact List.getElem_append_left hi
  have HL : Hid (∀ (hi' : m.eras.length < n.eras.length), n.eras[m.eras.length].closed = false) := fun hi' => by
    simp [hn]
  have EM : Hid (∀ i, i < m.eras.length → eraN n ((i : Int) + 1) = eraN m ((i : Int) + 1)) := fun i hi => by rw [hn]; exact eraN_more hi
  have EL : Hid (eraN n ((m.eras.length : Int) + 1) = zs) := by rw [Hid, hn]; exact eraN_last
  have CN1 := dHide fun W (hb : Below (w8.alloc (.cells #[.slice a5 n.eras.length c5, .int .i64 n.trim] 29)).heap.size (w8.alloc (.cells #[.slice a5 n.eras.length c5, .int .i64 n.trim] 29)) W) q (hq : okInt q) => implEraNodes_any (.agg #[.slice a3 n.eras.length c3, .int .i64 n.trim]) n q W ⟨_, rfl, RdK.below R6 hb⟩ (hfn.siz (by omega)) hq
  have CN2 := dHide fun W (hb : Below (w8.alloc (.cells #[.slice a5 n.eras.length c5, .int .i64 n.trim] 29)).heap.size (w8.alloc (.cells #[.slice a5 n.eras.length c5, .int .i64 n.trim] 29)) W) q (hq : okInt q) => specEraNodes_any _ m q W (RM.below hb) (hf.siz (by omega)) hq
  have CO6 := dHide fun W (hb : Below (w8.alloc (.cells #[.slice a5 n.eras.length c5, .int .i64 n.trim] 29)).heap.size (w8.alloc (.cells #[.slice a5 n.eras.length c5, .int .i64 n.trim] 29)) W) => retB_yes (dUnhide CO W (belowThen b46 hb) (.agg #[.slice a3 n.eras.length c3, .int .i64 n.trim]) n ⟨_, rfl, RdK.below R6 hb⟩ hfn.ok (hfn.siz (by omega))) hreg'
  have HV := dHide fun W (hb : Below (w8.alloc (.cells #[.slice a5 n.eras.length c5, .int .i64 n.trim] 29)).heap.size (w8.alloc (.cells #[.slice a5 n.eras.length c5, .int .i64 n.trim] 29)) W) => V6.below hb
  have y1 := Y6 1 _ rfl
  have z1' := Z6 1 _ rfl
  have HNL := dHide hnl
  have HEP := dHide hep
  have hepb : (ep != ep) = false := by simp
  clear CO hn hreg hreg' hfn hnl V6 hep
  go_wp2
  generalize w8.alloc (.cells #[.slice a5 n.eras.length c5, .int .i64 n.trim] 29) = wa at *
  have hnl := dUnhide HNL
  have hep := dUnhide HEP
  subst hep
  have HX := dHide fun W (hb : Below wa.heap.size wa W) => X6.below hb
  have HY := dHide fun W (hb : Below wa.heap.size wa W) => Y6.below hb
  have HZ := dHide fun W (hb : Below wa.heap.size wa W) => Z6.below hb
  obtain ⟨sm, em, rm, hmm, hrm, -⟩ := RM
  cases em
  obtain ⟨rn, hmn, hrn, -⟩ := R6
  have HRM := dHide fun W (hb : Below wa.heap.size wa W) => hrm.below hb
  have HRN := dHide fun W (hb : Below wa.heap.size wa W) => hrn.below hb
  have lm : rm.length = m.eras.length := by rw [← hmm, List.length_map]
  have ln : rn.length = m.eras.length + 1 := by rw [← hnl, ← hmn, List.length_map]
  have HM : Hid (∀ i (h : i < rm.length) (h' : i < m.eras.length), rm[i].m = m.eras[i]) := fun i h h' => by simp only [← hmm, List.getElem_map]
  have HN : Hid (∀ i (h : i < rn.length) (h' : i < n.eras.length), rn[i].m = n.eras[i]) := fun i h h' => by simp only [← hmn, List.getElem_map]
  clear X6 Y6 Z6 hrm hrn hmm hmn x0 x1 y0 y1 z0' z1' b46 hepb HEP
  rw [hnl] at HZ HRN CN1 CO6
  rw [hnl]
  go_loopw [12] (fun q wr => ∃ i : Nat, q = .int .i64 ((i : Int) + 1) ∧ i ≤ m.eras.length ∧ Below wa.heap.size wa wr) (fun q _ => m.eras.length + 1 - (intOf q).toNat)
  case atStart => exact ⟨0, rfl, Nat.zero_le _, Below.refl _ _⟩
  case round =>
    obtain ⟨i, rfl, hi, hb⟩ := hrel
    have y0 := dUnhide HY wr hb 0 _ rfl
    have y1 := dUnhide HY wr hb 1 _ rfl
    have z0 := dUnhide HZ wr hb 0 _ rfl
    have z1 := dUnhide HZ wr hb 1 _ rfl
    by_cases hlt : (i : Int) + 1 ≤ (m.eras.length : Int)
    · have hil : i < m.eras.length := by omega
      obtain ⟨b, off, rfl, hce⟩ := (dUnhide HRM wr hb).era (show i < rm.length by omega)
      obtain ⟨b', off', rfl, hce'⟩ := (dUnhide HRN wr hb).era (show i < rn.length by omega)
      obtain ⟨-, c1, c2⟩ := hce i (by omega)
      obtain ⟨-, c1', c2'⟩ := hce' i (by omega)
      rw [dUnhide HM i (by omega) hil] at c1 c2
      rw [dUnhide HN i (by omega) (by omega), dUnhide HE i hil (by omega)] at c1' c2'
      have oki : okInt ((i : Int) + 1) := by unfold okInt; omega
      have C1 := dHide fun W (hb : Below wa.heap.size wa W) => dUnhide CN1 W hb ((i : Int) + 1) oki
      have C2 := dHide fun W (hb : Below wa.heap.size wa W) => dUnhide CN2 W hb ((i : Int) + 1) oki
      rw [dUnhide EM i hil] at C1
      generalize eraN m ((i : Int) + 1) = li at *
      generalize m.eras[i].closed = bm at *
      generalize m.eras[i].last = bl at *
      have bd : Below wr.heap.size wr wr.drew := (Below.refl _ _).drew
      have PC : Hid (∀ W, Below wr.heap.size wr W → (W.cell? ⟨nx, 0, none⟩ = some (.slice (some ⟨b', off', none⟩) (m.eras.length + 1) c3) ∧ W.cell? ⟨nx, 1, none⟩ = some (.int .i64 n.trim)) ∧ (W.cell? ⟨w4.heap.size + 1, 0, none⟩ = some (.slice (some ⟨b, off, none⟩) m.eras.length c) ∧ W.cell? ⟨w4.heap.size + 1, 1, none⟩ = some (.int .i64 m.trim)) ∧ (W.cell? ⟨b', off' + i * 3 + 1, none⟩ = some (.bool bm) ∧ W.cell? ⟨b, off + i * 3 + 1, none⟩ = some (.bool bm)) ∧ W.cell? ⟨b', off' + i * 3 + 2, none⟩ = some (.int .i64 bl) ∧ W.cell? ⟨b, off + i * 3 + 2, none⟩ = some (.int .i64 bl)) := fun W hB => ⟨⟨(hB.cell (p := ⟨nx, 0, none⟩) (dCell_lt z0)).trans z0, (hB.cell (p := ⟨nx, 1, none⟩) (dCell_lt z1)).trans z1⟩, ⟨(hB.cell (p := ⟨w4.heap.size + 1, 0, none⟩) (dCell_lt y0)).trans y0, (hB.cell (p := ⟨w4.heap.size + 1, 1, none⟩) (dCell_lt y1)).trans y1⟩, ⟨(hB.cell (p := ⟨b', off' + i * 3 + 1, none⟩) (dCell_lt c1')).trans c1', (hB.cell (p := ⟨b, off + i * 3 + 1, none⟩) (dCell_lt c1)).trans c1⟩, (hB.cell (p := ⟨b', off' + i * 3 + 2, none⟩) (dCell_lt c2')).trans c2', (hB.cell (p := ⟨b, off + i * 3 + 2, none⟩) (dCell_lt c2)).trans c2⟩
      have hwi : IntKind.i64.wrap (i : Int) = (i : Int) := by rw [IntKind.wrap_i64]; omega
      have hbb : (bm != bm) = false := by simp
      have hbl : (bl != bl) = false := by simp
      have hl1 : (i : Int) < (m.eras.length : Int) := by omega
      have hl2 : (i : Int) < (m.eras.length : Int) + 1 := by omega
      clear hce hce' HE HL HM HN EM EL
      go_wp2_with fail
      refine wp_region_noPanic ?_
      refine wp_region_held_drew (S := fun W => (W.cell? ⟨nx, 0, none⟩ = some (.slice (some ⟨b', off', none⟩) (m.eras.length + 1) c3) ∧ W.cell? ⟨nx, 1, none⟩ = some (.int .i64 n.trim)) ∧ (W.cell? ⟨w4.heap.size + 1, 0, none⟩ = some (.slice (some ⟨b, off, none⟩) m.eras.length c) ∧ W.cell? ⟨w4.heap.size + 1, 1, none⟩ = some (.int .i64 m.trim)) ∧ (W.cell? ⟨b', off' + i * 3 + 1, none⟩ = some (.bool bm) ∧ W.cell? ⟨b, off + i * 3 + 1, none⟩ = some (.bool bm)) ∧ W.cell? ⟨b', off' + i * 3 + 2, none⟩ = some (.int .i64 bl) ∧ W.cell? ⟨b, off + i * 3 + 2, none⟩ = some (.int .i64 bl)) (by kernel_rfl) (by first | exact dUnhide PC _ (Below.refl _ _) | exact dUnhide PC _ bd | exact dUnhide PC _ b5' | exact dUnhide PC _ b6' | exact dUnhide PC _ b7') (fun hHeld => ?_)
      refine wpAnyH_take (i := 0) (oi := { dst := some 67, op := Op.load 29 (Operand.tmp 6), type := 29, pos := "laws.go:556", after := #[], guard := none }) (v := ?_) rfl (by kernel_rfl) (by kernel_rfl) (by kernel_rfl) (fun _ _ _ h => h) (Or.inl ⟨by rfl, ?_⟩) (by assumption) ?_
      rotate_left 1
      · intro w hSw
        (try dsimp only at hSw)
        first | (go_simp; done) | (go_simp; with_reducible rfl)
      try simp only [Act.put, List.setIfInBounds_toArray, List.set_cons_zero, List.set_cons_succ]
      refine wpAnyH_take (i := 1) (oi := { dst := some 68, op := Op.move (Operand.tmp 12), type := 3, pos := "laws.go:556", after := #[], guard := none }) (v := ?_) rfl (by kernel_rfl) (by kernel_rfl) (by kernel_rfl) (fun _ _ _ h => h) (Or.inl ⟨by rfl, ?_⟩) (by assumption) ?_
      rotate_left 1
      · intro w hSw
        (try dsimp only at hSw)
        first | (go_simp; done) | (go_simp; with_reducible rfl)
      try simp only [Act.put, List.setIfInBounds_toArray, List.set_cons_zero, List.set_cons_succ]
      refine wpAnyH_take (i := 3) (oi := { dst := some 70, op := Op.load 29 (Operand.tmp 4), type := 29, pos := "laws.go:556", after := #[], guard := none }) (v := ?_) rfl (by kernel_rfl) (by kernel_rfl) (by kernel_rfl) (fun _ _ _ h => h) (Or.inl ⟨by rfl, ?_⟩) (by assumption) ?_
      rotate_left 1
      · intro w hSw
        (try dsimp only at hSw)
        first | (go_simp; done) | (go_simp; with_reducible rfl)
      try simp only [Act.put, List.setIfInBounds_toArray, List.set_cons_zero, List.set_cons_succ]
      refine wpAnyH_take (i := 4) (oi := { dst := some 71, op := Op.move (Operand.tmp 12), type := 3, pos := "laws.go:556", after := #[], guard := none }) (v := ?_) rfl (by kernel_rfl) (by kernel_rfl) (by kernel_rfl) (fun _ _ _ h => h) (Or.inl ⟨by rfl, ?_⟩) (by assumption) ?_
      rotate_left 1
      · intro w hSw
        (try dsimp only at hSw)
        first | (go_simp; done) | (go_simp; with_reducible rfl)
      try simp only [Act.put, List.setIfInBounds_toArray, List.set_cons_zero, List.set_cons_succ]
      refine wpAnyH_ready (rs := [2]) (by kernel_rfl) (by simp) ?_
      refine AllReadyH.cons (o := { dst := some 69, op := Op.call { callee := Callee.value (Operand.func 10), args := #[Operand.tmp 67, Operand.tmp 68], argTypes := #[29, 3] }, type := 24, pos := "laws.go:556", after := #[{ on := 0, ground := Ground.data }, { on := 1, ground := Ground.data }], guard := none }) rfl (fun K hK => ?_) AllReadyH.nil
      go_simp
      refine (dUnhide C1 _ (belowThen hb bd)).mono ?_
      rintro e w5' ⟨⟨u5, rfl, O5⟩, b5⟩
      obtain ⟨-, ua, uc, rfl, -, -⟩ := O5.bs
      have b5' := belowThen bd b5
      have OO5 := dHide O5
      clear O5
      (try go_wp2_with fail)
      refine hK.out _ _ (by first | exact dUnhide PC _ (Below.refl _ _) | exact dUnhide PC _ bd | exact dUnhide PC _ b5' | exact dUnhide PC _ b6' | exact dUnhide PC _ b7') (fun hHeld => ?_)
      clear hK K
      try simp only [Act.put, List.setIfInBounds_toArray, List.set_cons_zero, List.set_cons_succ]
      refine wpAnyH_ready (rs := [5]) (by kernel_rfl) (by simp) ?_
      refine AllReadyH.cons (o := { dst := some 72, op := Op.call { callee := Callee.value (Operand.func 11), args := #[Operand.tmp 70, Operand.tmp 71], argTypes := #[29, 3] }, type := 24, pos := "laws.go:556", after := #[{ on := 3, ground := Ground.data }, { on := 4, ground := Ground.data }, { on := 2, ground := Ground.chain }], guard := none }) rfl (fun K hK => ?_) AllReadyH.nil
      go_simp
      refine (dUnhide C2 _ (belowThen hb b5')).mono ?_
      rintro e w6' ⟨⟨u6, rfl, O6⟩, b6⟩
      obtain ⟨-, va, vc, rfl, -, -⟩ := O6.bs
      have b6' := belowThen b5' b6
      have CS := dHide (sameInts_yes _ _ li w6' ((dUnhide OO5).bs.below b6) O6.bs)
      clear O6
      (try go_wp2_with fail)
      refine hK.out _ _ (by first | exact dUnhide PC _ (Below.refl _ _) | exact dUnhide PC _ bd | exact dUnhide PC _ b5' | exact dUnhide PC _ b6' | exact dUnhide PC _ b7') (fun hHeld => ?_)
      clear hK K
      try simp only [Act.put, List.setIfInBounds_toArray, List.set_cons_zero, List.set_cons_succ]
      refine wpAnyH_ready (rs := [6]) (by kernel_rfl) (by simp) ?_
      refine AllReadyH.cons (o := { dst := some 73, op := Op.call { callee := Callee.value (Operand.func 9), args := #[Operand.tmp 69, Operand.tmp 72], argTypes := #[24, 24] }, type := 4, pos := "laws.go:556", after := #[{ on := 2, ground := Ground.data }, { on := 5, ground := Ground.data }, { on := 5, ground := Ground.chain }], guard := none }) rfl (fun K hK => ?_) AllReadyH.nil
      go_simp
      refine (dUnhide CS).mono ?_
      rintro e w7' ⟨rfl, b7⟩
      have b7' := belowThen b6' b7
      (try go_wp2_with fail)
      refine hK.out _ _ (by first | exact dUnhide PC _ (Below.refl _ _) | exact dUnhide PC _ bd | exact dUnhide PC _ b5' | exact dUnhide PC _ b6' | exact dUnhide PC _ b7') (fun hHeld => ?_)
      clear hK K
      try simp only [Act.put, List.setIfInBounds_toArray, List.set_cons_zero, List.set_cons_succ]
      refine wpAnyH_take (i := 7) (oi := { dst := some 74, op := Op.unOp UnOp.not 4 (Operand.tmp 73), type := 4, pos := "laws.go:556", after := #[{ on := 6, ground := Ground.data }], guard := none }) (v := ?_) rfl (by kernel_rfl) (by kernel_rfl) (by kernel_rfl) (fun _ _ _ h => h) (Or.inl ⟨by rfl, ?_⟩) (by assumption) ?_
      rotate_left 1
      · intro w hSw
        (try dsimp only at hSw)
        first | (go_simp; done) | (go_simp; with_reducible rfl)
      try simp only [Act.put, List.setIfInBounds_toArray, List.set_cons_zero, List.set_cons_succ]
      refine wpAnyH_take (i := 8) (oi := { dst := some 75, op := Op.move (Operand.tmp 74), type := 4, pos := "laws.go:556", after := #[{ on := 7, ground := Ground.data }, { on := 6, ground := Ground.chain }], guard := none }) (v := ?_) rfl (by kernel_rfl) (by kernel_rfl) (by kernel_rfl) (fun _ _ _ h => h) (Or.inl ⟨by rfl, ?_⟩) (by assumption) ?_
      rotate_left 1
      · intro w hSw
        (try dsimp only at hSw)
        first | (go_simp; done) | (go_simp; with_reducible rfl)
      try simp only [Act.put, List.setIfInBounds_toArray, List.set_cons_zero, List.set_cons_succ]
      refine wpAnyH_take (i := 9) (oi := { dst := some 76, op := Op.fieldAddr 29 (Operand.tmp 6) 0, type := 0, pos := "laws.go:556", after := #[{ on := 8, ground := Ground.guard }], guard := some (8, false) }) (v := ?_) rfl (by kernel_rfl) (by kernel_rfl) (by kernel_rfl) (fun _ _ _ h => h) (Or.inl ⟨by rfl, ?_⟩) (by assumption) ?_
      rotate_left 1
      · intro w hSw
        (try dsimp only at hSw)
        first | (go_simp; done) | (go_simp; with_reducible rfl)
      try simp only [Act.put, List.setIfInBounds_toArray, List.set_cons_zero, List.set_cons_succ]
      refine wpAnyH_take (i := 10) (oi := { dst := some 77, op := Op.load 27 (Operand.tmp 76), type := 27, pos := "laws.go:556", after := #[{ on := 9, ground := Ground.data }, { on := 8, ground := Ground.guard }], guard := some (8, false) }) (v := ?_) rfl (by kernel_rfl) (by kernel_rfl) (by kernel_rfl) (fun _ _ _ h => h) (Or.inl ⟨by rfl, ?_⟩) (by assumption) ?_
      rotate_left 1
      · intro w hSw
        (try dsimp only at hSw)
        first | (go_simp; done) | (go_simp; with_reducible rfl)
      try simp only [Act.put, List.setIfInBounds_toArray, List.set_cons_zero, List.set_cons_succ]
      refine wpAnyH_take (i := 11) (oi := { dst := some 78, op := Op.move (Operand.tmp 12), type := 3, pos := "laws.go:556", after := #[{ on := 8, ground := Ground.guard }], guard := some (8, false) }) (v := ?_) rfl (by kernel_rfl) (by kernel_rfl) (by kernel_rfl) (fun _ _ _ h => h) (Or.inl ⟨by rfl, ?_⟩) (by assumption) ?_
      rotate_left 1
      · intro w hSw
        (try dsimp only at hSw)
        first | (go_simp; done) | (go_simp; with_reducible rfl)
      try simp only [Act.put, List.setIfInBounds_toArray, List.set_cons_zero, List.set_cons_succ]
      refine wpAnyH_take (i := 12) (oi := { dst := some 79, op := Op.binOp BinOp.sub 3 (Operand.tmp 78) (Operand.const (Value.int IntKind.i64 1)) 3, type := 3, pos := "laws.go:556", after := #[{ on := 11, ground := Ground.data }, { on := 8, ground := Ground.guard }], guard := some (8, false) }) (v := ?_) rfl (by kernel_rfl) (by kernel_rfl) (by kernel_rfl) (fun _ _ _ h => h) (Or.inl ⟨by rfl, ?_⟩) (by assumption) ?_
      rotate_left 1
      · intro w hSw
        (try dsimp only at hSw)
        first | (go_simp; done) | (go_simp; with_reducible rfl)
      try simp only [Act.put, List.setIfInBounds_toArray, List.set_cons_zero, List.set_cons_succ]
      refine wpAnyH_take (i := 13) (oi := { dst := some 80, op := Op.indexAddr 27 (Operand.tmp 77) (Operand.tmp 79), type := 0, pos := "laws.go:556", after := #[{ on := 10, ground := Ground.data }, { on := 12, ground := Ground.data }, { on := 8, ground := Ground.guard }], guard := some (8, false) }) (v := ?_) rfl (by kernel_rfl) (by kernel_rfl) (by kernel_rfl) (fun _ _ _ h => h) (Or.inl ⟨by rfl, ?_⟩) (by assumption) ?_
      rotate_left 1
      · intro w hSw
        (try dsimp only at hSw)
        first | (go_simp; done) | (go_simp; with_reducible rfl)
      try simp only [Act.put, List.setIfInBounds_toArray, List.set_cons_zero, List.set_cons_succ]
      refine wpAnyH_take (i := 14) (oi := { dst := some 81, op := Op.fieldAddr 37 (Operand.tmp 80) 1, type := 0, pos := "laws.go:556", after := #[{ on := 13, ground := Ground.data }, { on := 8, ground := Ground.guard }], guard := some (8, false) }) (v := ?_) rfl (by kernel_rfl) (by kernel_rfl) (by kernel_rfl) (fun _ _ _ h => h) (Or.inl ⟨by rfl, ?_⟩) (by assumption) ?_
      rotate_left 1
      · intro w hSw
        (try dsimp only at hSw)
        first | (go_simp; done) | (go_simp; with_reducible rfl)
      try simp only [Act.put, List.setIfInBounds_toArray, List.set_cons_zero, List.set_cons_succ]
      refine wpAnyH_take (i := 15) (oi := { dst := some 82, op := Op.load 4 (Operand.tmp 81), type := 4, pos := "laws.go:556", after := #[{ on := 14, ground := Ground.data }, { on := 8, ground := Ground.guard }], guard := some (8, false) }) (v := ?_) rfl (by kernel_rfl) (by kernel_rfl) (by kernel_rfl) (fun _ _ _ h => h) (Or.inl ⟨by rfl, ?_⟩) (by assumption) ?_
      rotate_left 1
      · intro w hSw
        (try dsimp only at hSw)
        first | (go_simp; done) | (go_simp; with_reducible rfl)
      try simp only [Act.put, List.setIfInBounds_toArray, List.set_cons_zero, List.set_cons_succ]
      refine wpAnyH_take (i := 16) (oi := { dst := some 83, op := Op.fieldAddr 29 (Operand.tmp 4) 0, type := 0, pos := "laws.go:556", after := #[{ on := 8, ground := Ground.guard }], guard := some (8, false) }) (v := ?_) rfl (by kernel_rfl) (by kernel_rfl) (by kernel_rfl) (fun _ _ _ h => h) (Or.inl ⟨by rfl, ?_⟩) (by assumption) ?_
      rotate_left 1
      · intro w hSw
        (try dsimp only at hSw)
        first | (go_simp; done) | (go_simp; with_reducible rfl)
      try simp only [Act.put, List.setIfInBounds_toArray, List.set_cons_zero, List.set_cons_succ]
      refine wpAnyH_take (i := 17) (oi := { dst := some 84, op := Op.load 27 (Operand.tmp 83), type := 27, pos := "laws.go:556", after := #[{ on := 16, ground := Ground.data }, { on := 8, ground := Ground.guard }], guard := some (8, false) }) (v := ?_) rfl (by kernel_rfl) (by kernel_rfl) (by kernel_rfl) (fun _ _ _ h => h) (Or.inl ⟨by rfl, ?_⟩) (by assumption) ?_
      rotate_left 1
      · intro w hSw
        (try dsimp only at hSw)
        first | (go_simp; done) | (go_simp; with_reducible rfl)
      try simp only [Act.put, List.setIfInBounds_toArray, List.set_cons_zero, List.set_cons_succ]
      refine wpAnyH_take (i := 18) (oi := { dst := some 85, op := Op.move (Operand.tmp 12), type := 3, pos := "laws.go:556", after := #[{ on := 8, ground := Ground.guard }], guard := some (8, false) }) (v := ?_) rfl (by kernel_rfl) (by kernel_rfl) (by kernel_rfl) (fun _ _ _ h => h) (Or.inl ⟨by rfl, ?_⟩) (by assumption) ?_
      rotate_left 1
      · intro w hSw
        (try dsimp only at hSw)
        first | (go_simp; done) | (go_simp; with_reducible rfl)
      try simp only [Act.put, List.setIfInBounds_toArray, List.set_cons_zero, List.set_cons_succ]
      refine wpAnyH_take (i := 19) (oi := { dst := some 86, op := Op.binOp BinOp.sub 3 (Operand.tmp 85) (Operand.const (Value.int IntKind.i64 1)) 3, type := 3, pos := "laws.go:556", after := #[{ on := 18, ground := Ground.data }, { on := 8, ground := Ground.guard }], guard := some (8, false) }) (v := ?_) rfl (by kernel_rfl) (by kernel_rfl) (by kernel_rfl) (fun _ _ _ h => h) (Or.inl ⟨by rfl, ?_⟩) (by assumption) ?_
      rotate_left 1
      · intro w hSw
        (try dsimp only at hSw)
        first | (go_simp; done) | (go_simp; with_reducible rfl)
      try simp only [Act.put, List.setIfInBounds_toArray, List.set_cons_zero, List.set_cons_succ]
      refine wpAnyH_take (i := 20) (oi := { dst := some 87, op := Op.indexAddr 27 (Operand.tmp 84) (Operand.tmp 86), type := 0, pos := "laws.go:556", after := #[{ on := 17, ground := Ground.data }, { on := 19, ground := Ground.data }, { on := 8, ground := Ground.guard }], guard := some (8, false) }) (v := ?_) rfl (by kernel_rfl) (by kernel_rfl) (by kernel_rfl) (fun _ _ _ h => h) (Or.inl ⟨by rfl, ?_⟩) (by assumption) ?_
      rotate_left 1
      · intro w hSw
        (try dsimp only at hSw)
        first | (go_simp; done) | (go_simp; with_reducible rfl)
      try simp only [Act.put, List.setIfInBounds_toArray, List.set_cons_zero, List.set_cons_succ]
      refine wpAnyH_take (i := 21) (oi := { dst := some 88, op := Op.fieldAddr 37 (Operand.tmp 87) 1, type := 0, pos := "laws.go:556", after := #[{ on := 20, ground := Ground.data }, { on := 8, ground := Ground.guard }], guard := some (8, false) }) (v := ?_) rfl (by kernel_rfl) (by kernel_rfl) (by kernel_rfl) (fun _ _ _ h => h) (Or.inl ⟨by rfl, ?_⟩) (by assumption) ?_
      rotate_left 1
      · intro w hSw
        (try dsimp only at hSw)
        first | (go_simp; done) | (go_simp; with_reducible rfl)
      try simp only [Act.put, List.setIfInBounds_toArray, List.set_cons_zero, List.set_cons_succ]
      refine wpAnyH_take (i := 22) (oi := { dst := some 89, op := Op.load 4 (Operand.tmp 88), type := 4, pos := "laws.go:556", after := #[{ on := 21, ground := Ground.data }, { on := 8, ground := Ground.guard }], guard := some (8, false) }) (v := ?_) rfl (by kernel_rfl) (by kernel_rfl) (by kernel_rfl) (fun _ _ _ h => h) (Or.inl ⟨by rfl, ?_⟩) (by assumption) ?_
      rotate_left 1
      · intro w hSw
        (try dsimp only at hSw)
        first | (go_simp; done) | (go_simp; with_reducible rfl)
      try simp only [Act.put, List.setIfInBounds_toArray, List.set_cons_zero, List.set_cons_succ]
      refine wpAnyH_take (i := 23) (oi := { dst := some 90, op := Op.binOp BinOp.neq 4 (Operand.tmp 82) (Operand.tmp 89) 4, type := 4, pos := "laws.go:556", after := #[{ on := 15, ground := Ground.data }, { on := 22, ground := Ground.data }, { on := 8, ground := Ground.guard }], guard := some (8, false) }) (v := ?_) rfl (by kernel_rfl) (by kernel_rfl) (by kernel_rfl) (fun _ _ _ h => h) (Or.inl ⟨by rfl, ?_⟩) (by assumption) ?_
      rotate_left 1
      · intro w hSw
        (try dsimp only at hSw)
        first | (go_simp; done) | (go_simp; with_reducible rfl)
      try simp only [Act.put, List.setIfInBounds_toArray, List.set_cons_zero, List.set_cons_succ]
      refine wpAnyH_take (i := 24) (oi := { dst := some 91, op := Op.pick (Operand.tmp 75) (Operand.const (Value.bool true)) (Operand.tmp 90), type := 4, pos := "laws.go:556", after := #[{ on := 8, ground := Ground.data }, { on := 23, ground := Ground.data }], guard := none }) (v := ?_) rfl (by kernel_rfl) (by kernel_rfl) (by kernel_rfl) (fun _ _ _ h => h) (Or.inl ⟨by rfl, ?_⟩) (by assumption) ?_
      rotate_left 1
      · intro w hSw
        (try dsimp only at hSw)
        first | (go_simp; done) | (go_simp; with_reducible rfl)
      try simp only [Act.put, List.setIfInBounds_toArray, List.set_cons_zero, List.set_cons_succ]
      refine wpAnyH_take (i := 25) (oi := { dst := some 92, op := Op.move (Operand.tmp 91), type := 4, pos := "laws.go:556", after := #[{ on := 24, ground := Ground.data }, { on := 8, ground := Ground.chain }], guard := none }) (v := ?_) rfl (by kernel_rfl) (by kernel_rfl) (by kernel_rfl) (fun _ _ _ h => h) (Or.inl ⟨by rfl, ?_⟩) (by assumption) ?_
      rotate_left 1
      · intro w hSw
        (try dsimp only at hSw)
        first | (go_simp; done) | (go_simp; with_reducible rfl)
      try simp only [Act.put, List.setIfInBounds_toArray, List.set_cons_zero, List.set_cons_succ]
      refine wpAnyH_take (i := 26) (oi := { dst := some 93, op := Op.fieldAddr 29 (Operand.tmp 6) 0, type := 0, pos := "laws.go:556", after := #[{ on := 25, ground := Ground.guard }], guard := some (25, false) }) (v := ?_) rfl (by kernel_rfl) (by kernel_rfl) (by kernel_rfl) (fun _ _ _ h => h) (Or.inl ⟨by rfl, ?_⟩) (by assumption) ?_
      rotate_left 1
      · intro w hSw
        (try dsimp only at hSw)
        first | (go_simp; done) | (go_simp; with_reducible rfl)
      try simp only [Act.put, List.setIfInBounds_toArray, List.set_cons_zero, List.set_cons_succ]
      refine wpAnyH_take (i := 27) (oi := { dst := some 94, op := Op.load 27 (Operand.tmp 93), type := 27, pos := "laws.go:556", after := #[{ on := 26, ground := Ground.data }, { on := 25, ground := Ground.guard }], guard := some (25, false) }) (v := ?_) rfl (by kernel_rfl) (by kernel_rfl) (by kernel_rfl) (fun _ _ _ h => h) (Or.inl ⟨by rfl, ?_⟩) (by assumption) ?_
      rotate_left 1
      · intro w hSw
        (try dsimp only at hSw)
        first | (go_simp; done) | (go_simp; with_reducible rfl)
      try simp only [Act.put, List.setIfInBounds_toArray, List.set_cons_zero, List.set_cons_succ]
      refine wpAnyH_take (i := 28) (oi := { dst := some 95, op := Op.move (Operand.tmp 12), type := 3, pos := "laws.go:556", after := #[{ on := 25, ground := Ground.guard }], guard := some (25, false) }) (v := ?_) rfl (by kernel_rfl) (by kernel_rfl) (by kernel_rfl) (fun _ _ _ h => h) (Or.inl ⟨by rfl, ?_⟩) (by assumption) ?_
      rotate_left 1
      · intro w hSw
        (try dsimp only at hSw)
        first | (go_simp; done) | (go_simp; with_reducible rfl)
      try simp only [Act.put, List.setIfInBounds_toArray, List.set_cons_zero, List.set_cons_succ]
      refine wpAnyH_take (i := 29) (oi := { dst := some 96, op := Op.binOp BinOp.sub 3 (Operand.tmp 95) (Operand.const (Value.int IntKind.i64 1)) 3, type := 3, pos := "laws.go:556", after := #[{ on := 28, ground := Ground.data }, { on := 25, ground := Ground.guard }], guard := some (25, false) }) (v := ?_) rfl (by kernel_rfl) (by kernel_rfl) (by kernel_rfl) (fun _ _ _ h => h) (Or.inl ⟨by rfl, ?_⟩) (by assumption) ?_
      rotate_left 1
      · intro w hSw
        (try dsimp only at hSw)
        first | (go_simp; done) | (go_simp; with_reducible rfl)
      try simp only [Act.put, List.setIfInBounds_toArray, List.set_cons_zero, List.set_cons_succ]
      refine wpAnyH_take (i := 30) (oi := { dst := some 97, op := Op.indexAddr 27 (Operand.tmp 94) (Operand.tmp 96), type := 0, pos := "laws.go:556", after := #[{ on := 27, ground := Ground.data }, { on := 29, ground := Ground.data }, { on := 25, ground := Ground.guard }], guard := some (25, false) }) (v := ?_) rfl (by kernel_rfl) (by kernel_rfl) (by kernel_rfl) (fun _ _ _ h => h) (Or.inl ⟨by rfl, ?_⟩) (by assumption) ?_
      rotate_left 1
      · intro w hSw
        (try dsimp only at hSw)
        first | (go_simp; done) | (go_simp; with_reducible rfl)
      try simp only [Act.put, List.setIfInBounds_toArray, List.set_cons_zero, List.set_cons_succ]
      refine wpAnyH_take (i := 31) (oi := { dst := some 98, op := Op.fieldAddr 37 (Operand.tmp 97) 2, type := 0, pos := "laws.go:556", after := #[{ on := 30, ground := Ground.data }, { on := 25, ground := Ground.guard }], guard := some (25, false) }) (v := ?_) rfl (by kernel_rfl) (by kernel_rfl) (by kernel_rfl) (fun _ _ _ h => h) (Or.inl ⟨by rfl, ?_⟩) (by assumption) ?_
      rotate_left 1
      · intro w hSw
        (try dsimp only at hSw)
        first | (go_simp; done) | (go_simp; with_reducible rfl)
      try simp only [Act.put, List.setIfInBounds_toArray, List.set_cons_zero, List.set_cons_succ]
      refine wpAnyH_take (i := 32) (oi := { dst := some 99, op := Op.load 3 (Operand.tmp 98), type := 3, pos := "laws.go:556", after := #[{ on := 31, ground := Ground.data }, { on := 25, ground := Ground.guard }], guard := some (25, false) }) (v := ?_) rfl (by kernel_rfl) (by kernel_rfl) (by kernel_rfl) (fun _ _ _ h => h) (Or.inl ⟨by rfl, ?_⟩) (by assumption) ?_
      rotate_left 1
      · intro w hSw
        (try dsimp only at hSw)
        first | (go_simp; done) | (go_simp; with_reducible rfl)
      try simp only [Act.put, List.setIfInBounds_toArray, List.set_cons_zero, List.set_cons_succ]
      refine wpAnyH_take (i := 33) (oi := { dst := some 100, op := Op.fieldAddr 29 (Operand.tmp 4) 0, type := 0, pos := "laws.go:556", after := #[{ on := 25, ground := Ground.guard }], guard := some (25, false) }) (v := ?_) rfl (by kernel_rfl) (by kernel_rfl) (by kernel_rfl) (fun _ _ _ h => h) (Or.inl ⟨by rfl, ?_⟩) (by assumption) ?_
      rotate_left 1
      · intro w hSw
        (try dsimp only at hSw)
        first | (go_simp; done) | (go_simp; with_reducible rfl)
      try simp only [Act.put, List.setIfInBounds_toArray, List.set_cons_zero, List.set_cons_succ]
      refine wpAnyH_take (i := 34) (oi := { dst := some 101, op := Op.load 27 (Operand.tmp 100), type := 27, pos := "laws.go:556", after := #[{ on := 33, ground := Ground.data }, { on := 25, ground := Ground.guard }], guard := some (25, false) }) (v := ?_) rfl (by kernel_rfl) (by kernel_rfl) (by kernel_rfl) (fun _ _ _ h => h) (Or.inl ⟨by rfl, ?_⟩) (by assumption) ?_
      rotate_left 1
      · intro w hSw
        (try dsimp only at hSw)
        first | (go_simp; done) | (go_simp; with_reducible rfl)
      try simp only [Act.put, List.setIfInBounds_toArray, List.set_cons_zero, List.set_cons_succ]
      refine wpAnyH_take (i := 35) (oi := { dst := some 102, op := Op.move (Operand.tmp 12), type := 3, pos := "laws.go:556", after := #[{ on := 25, ground := Ground.guard }], guard := some (25, false) }) (v := ?_) rfl (by kernel_rfl) (by kernel_rfl) (by kernel_rfl) (fun _ _ _ h => h) (Or.inl ⟨by rfl, ?_⟩) (by assumption) ?_
      rotate_left 1
      · intro w hSw
        (try dsimp only at hSw)
        first | (go_simp; done) | (go_simp; with_reducible rfl)
      try simp only [Act.put, List.setIfInBounds_toArray, List.set_cons_zero, List.set_cons_succ]
      refine wpAnyH_take (i := 36) (oi := { dst := some 103, op := Op.binOp BinOp.sub 3 (Operand.tmp 102) (Operand.const (Value.int IntKind.i64 1)) 3, type := 3, pos := "laws.go:556", after := #[{ on := 35, ground := Ground.data }, { on := 25, ground := Ground.guard }], guard := some (25, false) }) (v := ?_) rfl (by kernel_rfl) (by kernel_rfl) (by kernel_rfl) (fun _ _ _ h => h) (Or.inl ⟨by rfl, ?_⟩) (by assumption) ?_
      rotate_left 1
      · intro w hSw
        (try dsimp only at hSw)
        first | (go_simp; done) | (go_simp; with_reducible rfl)
      try simp only [Act.put, List.setIfInBounds_toArray, List.set_cons_zero, List.set_cons_succ]
      refine wpAnyH_take (i := 37) (oi := { dst := some 104, op := Op.indexAddr 27 (Operand.tmp 101) (Operand.tmp 103), type := 0, pos := "laws.go:556", after := #[{ on := 34, ground := Ground.data }, { on := 36, ground := Ground.data }, { on := 25, ground := Ground.guard }], guard := some (25, false) }) (v := ?_) rfl (by kernel_rfl) (by kernel_rfl) (by kernel_rfl) (fun _ _ _ h => h) (Or.inl ⟨by rfl, ?_⟩) (by assumption) ?_
      rotate_left 1
      · intro w hSw
        (try dsimp only at hSw)
        first | (go_simp; done) | (go_simp; with_reducible rfl)
      try simp only [Act.put, List.setIfInBounds_toArray, List.set_cons_zero, List.set_cons_succ]
      refine wpAnyH_take (i := 38) (oi := { dst := some 105, op := Op.fieldAddr 37 (Operand.tmp 104) 2, type := 0, pos := "laws.go:556", after := #[{ on := 37, ground := Ground.data }, { on := 25, ground := Ground.guard }], guard := some (25, false) }) (v := ?_) rfl (by kernel_rfl) (by kernel_rfl) (by kernel_rfl) (fun _ _ _ h => h) (Or.inl ⟨by rfl, ?_⟩) (by assumption) ?_
      rotate_left 1
      · intro w hSw
        (try dsimp only at hSw)
        first | (go_simp; done) | (go_simp; with_reducible rfl)
      try simp only [Act.put, List.setIfInBounds_toArray, List.set_cons_zero, List.set_cons_succ]
      refine wpAnyH_take (i := 39) (oi := { dst := some 106, op := Op.load 3 (Operand.tmp 105), type := 3, pos := "laws.go:556", after := #[{ on := 38, ground := Ground.data }, { on := 25, ground := Ground.guard }], guard := some (25, false) }) (v := ?_) rfl (by kernel_rfl) (by kernel_rfl) (by kernel_rfl) (fun _ _ _ h => h) (Or.inl ⟨by rfl, ?_⟩) (by assumption) ?_
      rotate_left 1
      · intro w hSw
        (try dsimp only at hSw)
        first | (go_simp; done) | (go_simp; with_reducible rfl)
      try simp only [Act.put, List.setIfInBounds_toArray, List.set_cons_zero, List.set_cons_succ]
      refine wpAnyH_take (i := 40) (oi := { dst := some 107, op := Op.binOp BinOp.neq 3 (Operand.tmp 99) (Operand.tmp 106) 3, type := 4, pos := "laws.go:556", after := #[{ on := 32, ground := Ground.data }, { on := 39, ground := Ground.data }, { on := 25, ground := Ground.guard }], guard := some (25, false) }) (v := ?_) rfl (by kernel_rfl) (by kernel_rfl) (by kernel_rfl) (fun _ _ _ h => h) (Or.inl ⟨by rfl, ?_⟩) (by assumption) ?_
      rotate_left 1
      · intro w hSw
        (try dsimp only at hSw)
        first | (go_simp; done) | (go_simp; with_reducible rfl)
      try simp only [Act.put, List.setIfInBounds_toArray, List.set_cons_zero, List.set_cons_succ]
      refine wpAnyH_take (i := 41) (oi := { dst := some 108, op := Op.pick (Operand.tmp 92) (Operand.const (Value.bool true)) (Operand.tmp 107), type := 4, pos := "laws.go:556", after := #[{ on := 25, ground := Ground.data }, { on := 40, ground := Ground.data }], guard := none }) (v := ?_) rfl (by kernel_rfl) (by kernel_rfl) (by kernel_rfl) (fun _ _ _ h => h) (Or.inl ⟨by rfl, ?_⟩) (by assumption) ?_
      rotate_left 1
      · intro w hSw
        (try dsimp only at hSw)
        first | (go_simp; done) | (go_simp; with_reducible rfl)
      try simp only [Act.put, List.setIfInBounds_toArray, List.set_cons_zero, List.set_cons_succ]
      refine wpAnyH_done (by kernel_rfl) ?_ _
      refine NoPanic.normal ?_
      (try simp only [Act.put, List.setIfInBounds_toArray, List.set_cons_zero, List.set_cons_succ])
      have hbE := belowThen hb b7'
      clear CS OO5 C1 C2 PC y0 y1 z0 z1 c1 c2 c1' c2'
      go_wp2
      go_roundw
      case rel => exact ⟨i + 1, by go_num, by omega, hbE⟩
      case measure => simp [intOf]; omega
    · have x0 := dUnhide HX wr hb 0 _ rfl
      have x1 := dUnhide HX wr hb 1 _ rfl
      have hil : m.eras.length < n.eras.length := by omega
      obtain ⟨b', off', rfl, hce'⟩ := (dUnhide HRN wr hb).era (show m.eras.length < rn.length by omega)
      obtain ⟨-, d1, -⟩ := hce' m.eras.length (by omega)
      rw [dUnhide HN m.eras.length (by omega) hil, dUnhide HL hil] at d1
      have D1 := dHide d1
      have oki : okInt ((m.eras.length : Int) + 1) := by unfold okInt; omega
      have C1 := dUnhide CN1 wr hb ((m.eras.length : Int) + 1) oki
      rw [dUnhide EL] at C1
      replace C1 := dHide C1
      have hbe : (((m.eras.length : Int) + 1) == ((m.eras.length : Int) + 1)) = true := by simp
      clear hce' HE HL HM HN EM EL d1 CN1 CN2
      go_wp2_with fail
      refine (dUnhide C1).mono ?_
      rintro e wb ⟨⟨ub, rfl, Ob⟩, bb⟩
      obtain ⟨-, ua, uc, rfl, -, -⟩ := Ob.bs
      have hbb := belowThen hb bb
      have CS := dHide (sameInts_yes _ _ zs wb Ob.bs (dUnhide HV wb hbb))
      clear C1 Ob x0 x1 y0 y1 z0 z1
      go_wp2_with fail
      refine (dUnhide CS).mono ?_
      rintro e wd ⟨rfl, bd⟩
      have hbd := belowThen hbb bd
      have CO7 := dHide (dUnhide CO6 wd hbd)
      have x0 := dUnhide HX wd hbd 0 _ rfl
      have x1 := dUnhide HX wd hbd 1 _ rfl
      have z0 := dUnhide HZ wd hbd 0 _ rfl
      have z1 := dUnhide HZ wd hbd 1 _ rfl
      have bbd := belowThen bb bd
      have d1 := (bbd.cell (p := ⟨b', off' + m.eras.length * 3 + 1, none⟩) (dCell_lt (dUnhide D1))).trans (dUnhide D1)
      have hwi : IntKind.i64.wrap (m.eras.length : Int) = (m.eras.length : Int) := by rw [IntKind.wrap_i64]; omega
      have hl2 : (m.eras.length : Int) < (m.eras.length : Int) + 1 := by omega
      clear CS CO6 HX HY HZ HRM HRN D1 HV
      go_wp2_with fail
      refine (dUnhide CO7).mono ?_
      rintro e we ⟨rfl, be⟩
      have BE := belowThen B6 (belowThen hbd be)
      clear x0 x1 z0 z1 d1 CO7
      go_wp2
      go_ret
      exact ⟨rfl, BE⟩
theorem bs_row8o {w : World} {a : Option Addr} {n cap : Nat} {bs : List UInt8} (h : Bs w (.slice a n cap) bs) : Row8 w a n := by
  obtain ⟨h0, a', cap', e, -, h⟩ := h
  cases e
  refine ⟨h0, ?_⟩
  rcases h with h | ⟨b, off, rfl, hc⟩
  · exact .inl (by rw [h]; rfl)
  · exact .inr ⟨b, off, rfl, fun i hi => ⟨_, by omega, by have := bs[i].toNat_lt; omega, hc i hi⟩⟩
theorem walkFnOpened (v0 : Value) (m0 : List UInt8) (w : World) (i0 : Bs w v0 m0) (e0 e1 : Addr) (hS : Snt w e0 e1) :
    Calls Tryd.prog 3 #[v0] w fun e w' => e = .returned (.bool true) ∧ Below w.heap.size w w' := by
  have i0' := i0
  obtain ⟨-, a, cap, rfl, -, -⟩ := i0'
  exact walkOpened a m0.length cap w (bs_row8o i0) e0 e1 hS
end Go.Proofs.YtfipenjojgflmaaDoor
