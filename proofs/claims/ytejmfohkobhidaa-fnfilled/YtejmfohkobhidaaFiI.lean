/- impl's Fill. -/
import Derived.Test.YtejmfohkobhidaaFiA
import Derived.Test.YtejmfohkobhidaaGf6
import Derived.Test.YtejmfohkobhidaaGaA
import Derived.Test.YtejmfohkobhidaaFiS
namespace Go.Proofs.Ytejmfohkobhidaa
open Go.ChangeShapes Go.WideShapes Go.ChangeAt Go.RowKit
set_option linter.unusedVariables false
set_option linter.unusedSimpArgs false
set_option maxRecDepth 100000

set_option maxHeartbeats 8000000 in
theorem implFill_q (cv v lv : Value) (ds : List Int) (cop : Int) (ms : List St) (lost : List Int) (node upto : Int) (w : World) (hc : Ns w cv ds) (hv : RdStoreS v ms w) (hlo : Ns w lv lost) (hf : ∀ m ∈ ms, fitS m) (hl : ms.length + sumQ (kepts ms) ≤ 1048576) (hal : allInt lost) (hll : lost.length ≤ 1048576) (had : allInt ds) (hld : ds.length ≤ 1048576) (c0 : -9223372036854775808 ≤ cop) (c1 : cop ≤ 9223372036854775807) (u0 : -9223372036854775808 ≤ upto) (u1 : upto ≤ 9223372036854775807) :
    Calls Try.prog 19 #[.agg #[cv, .int .i64 cop], v, lv, .int .i64 node, .int .i64 upto] w fun r w' => (∃ u, r = .returned (.tuple #[u, .bool (fillM ds cop ms lost node upto).2]) ∧ OwS w' w.heap.size u (fillM ds cop ms lost node upto).1) ∧ Below w.heap.size w w' := by
  have ba : ∀ (w : World) o, Below w.heap.size w (w.alloc o) := fun w o => (Below.refl _ _).alloc (Nat.le_refl _) o
  have PN : Hid (¬ fillP ds cop ms lost node upto → fillM ds cop ms lost node upto = (⟨[], [], 0⟩, false)) := fillM_no
  have PY : Hid (fillP ds cop ms lost node upto → fillM ds cop ms lost node upto = (⟨unL (kepts (othL lost ms)), [], upto⟩, true)) := fillM_yes
  have PD : Hid (fillP ds cop ms lost node upto ↔ (ms.length = ds.length ∧ lostP ds cop lost ∧ node ∈ lost) ∧ (∀ m ∈ othL lost ms, stP m) ∧ stP ⟨unL (kepts (othL lost ms)), [], upto⟩) := Iff.rfl
  have hfo : ∀ m ∈ othL lost ms, fitS m := fun m hm => hf m (mem_bes hm)
  have hso := othL_q (lost := lost) hl
  have HPC : Hid (lostP ds cop lost → cfgP ds cop) := fun h => h.1.1
  have C2 := dHide fun W (hb : Below w.heap.size w W) => implLost_any cv lv ds lost cop W (hc.below hb) (hlo.below hb) had hal hld hll c0 c1
  have C3 := dHide fun (y : Int) W (hb : Below w.heap.size w W) => containsI_any lv lost y W (hlo.below hb)
  have C6 := dHide fun u W (hb : Below w.heap.size w W) (A : Rw 4 Ent.cl W u (unL (kepts (othL lost ms)))) => implStoreOk_any (.agg #[u, .slice none 0 0, .int .i64 upto]) ⟨unL (kepts (othL lost ms)), [], upto⟩ W ⟨u, _, rfl, A, Rw.nil _ _ _ (by omega)⟩ ⟨unL_fit hfo, (fun e h => by cases h), u0, u1⟩
  generalize fillM ds cop ms lost node upto = M at *
  generalize fillP ds cop ms lost node upto = FP at *
  obtain ⟨rs, rfl, hr, hn⟩ := hv
  have hlen : rs.length ≤ 1048576 := by rw [List.length_map] at hl; omega
  have HOM : Hid (othL lost (rs.map Ps.m) = (bes lost rs rs.length).map Ps.m) := by rw [Hid, othL, List.length_map, bes_map]
  have HNB : Hid (∀ W, Below w.heap.size w W → ∀ p ∈ bes lost rs rs.length, RdStore (psVal p) p.m W) := fun W hb p hp => (hn p (mem_bes hp)).below hb
  have HLN : Hid ((rs.map Ps.m).length = rs.length) := by simp [Hid]
  have HV := dHide fun W (hb : Below w.heap.size w W) => hr.below hb
  have C4 := dHide fun W (hb : Below w.heap.size w W) => storesBeside_any lv v lost rs W (hlo.below hb) hal hll (hr.below hb) hlen
  have CU : Hid (∀ o W, Below w.heap.size w W → Rw 3 psCl W o (bes lost rs rs.length) → Calls Try.prog 52 #[o] W fun e w' => AnsU W.heap.size (othL lost (rs.map Ps.m)) e w' ∧ Below W.heap.size W w') := fun o W hb h => unionOf_any o (othL lost (rs.map Ps.m)) W ⟨_, (dUnhide HOM).symm, h, dUnhide HNB W hb⟩ hfo hso
  have HUY : Hid ((∀ m ∈ othL lost (rs.map Ps.m), stP m) → unM (othL lost (rs.map Ps.m)) = unL (kepts (othL lost (rs.map Ps.m)))) := unM_yes
  obtain ⟨-, ca, cc, rfl, -, -⟩ := hc
  obtain ⟨-, la, lc, rfl, -, -⟩ := hlo
  obtain ⟨h0, a, cap, rfl, -, -⟩ := hr
  clear hn hf hl hal hll had hld c0 c1 hfo hso
  generalize othL lost (rs.map Ps.m) = OT at *
  generalize unL (kepts OT) = UL at *
  have X0 := (Bx.new w [.slice ca ds.length cc, .int .i64 cop] 42).below (ba _ (.cells #[.slice none 0 0, .slice none 0 0, .int .i64 0] 26))
  have Z0 := BxZ.new (B := w.heap.size) (w.alloc (.cells #[.slice ca ds.length cc, .int .i64 cop] 42)) [.slice none 0 0, .slice none 0 0, .int .i64 0] 26 (by simp)
  have B0 := belowThen (ba w (.cells #[.slice ca ds.length cc, .int .i64 cop] 42)) (ba _ (.cells #[.slice none 0 0, .slice none 0 0, .int .i64 0] 26))
  have e1 : (w.alloc (.cells #[.slice ca ds.length cc, .int .i64 cop] 42)).heap.size = w.heap.size + 1 := by simp
  rw [e1] at Z0
  clear e1
  go_enter Try.func19, Try.ntmps19
  go_wp2_with fail
  generalize ((w.alloc (.cells #[.slice ca ds.length cc, .int .i64 cop] 42)).alloc (.cells #[.slice none 0 0, .slice none 0 0, .int .i64 0] 26)) = w0 at *
  have hw0 : w.heap.size ≤ w0.heap.size := B0.size
  have hlt := Z0.lt
  have K : Hid (∀ W, Below w0.heap.size w0 W → Bx W w.heap.size [.slice ca ds.length cc, .int .i64 cop] ∧ BxZ W w.heap.size (w.heap.size + 1) [.slice none 0 0, .slice none 0 0, .int .i64 0] ∧ Below w.heap.size w W) := fun W hb => ⟨X0.below hb, Z0.below hb, belowThen B0 hb⟩
  have FINZ : Hid (∀ W, Below w0.heap.size w0 W → Bx (((W.setCell ⟨w.heap.size + 1, 0, none⟩ (.slice none 0 0)).setCell ⟨w.heap.size + 1, 1, none⟩ (.slice none 0 0)).setCell ⟨w.heap.size + 1, 2, none⟩ (.int .i64 0)) (w.heap.size + 1) [.slice none 0 0, .slice none 0 0, .int .i64 0] ∧ Below w.heap.size w (((W.setCell ⟨w.heap.size + 1, 0, none⟩ (.slice none 0 0)).setCell ⟨w.heap.size + 1, 1, none⟩ (.slice none 0 0)).setCell ⟨w.heap.size + 1, 2, none⟩ (.int .i64 0))) := fun W hb => by
    obtain ⟨-, zz, bb⟩ := dUnhide K W hb
    exact ⟨(((zz.put 0 (.slice none 0 0)).put 1 (.slice none 0 0)).put 2 (.int .i64 0)).bx, ((bb.setCell (p := ⟨w.heap.size + 1, 0, none⟩) (by simp only; omega) _).setCell (p := ⟨w.heap.size + 1, 1, none⟩) (by simp only; omega) _).setCell (p := ⟨w.heap.size + 1, 2, none⟩) (by simp only; omega) _⟩
  clear X0 Z0 
  refine (dUnhide C2 _ B0).mono ?_
  rintro e w1 ⟨⟨b1, rfl, h1⟩, bl1⟩
  cases b1
  · have eM := dUnhide PN (fun h => by have := h1.2 ((dUnhide PD).1 h).1.2.1; cases this)
    obtain ⟨XE, ZE, BE⟩ := dUnhide K w1 bl1
    obtain ⟨z0, f0⟩ := ZE.2 0 _ rfl
    obtain ⟨z1, f1⟩ := ZE.2 1 _ rfl
    obtain ⟨z2, f2⟩ := ZE.2 2 _ rfl
    obtain ⟨hx, hB⟩ := dUnhide FINZ w1 bl1
    clear XE ZE BE K FINZ PN PY C2 C3 C6 CU HOM HNB HLN HV PD HPC C4 HUY h1
    go_wp2
    generalize ((w1.setCell ⟨w.heap.size + 1, 0, none⟩ (.slice none 0 0)).setCell ⟨w.heap.size + 1, 1, none⟩ (.slice none 0 0)).setCell ⟨w.heap.size + 1, 2, none⟩ (.int .i64 0) = V at *
    have q0 := hx 0 _ rfl
    have q1 := hx 1 _ rfl
    have q2 := hx 2 _ rfl
    clear z0 z1 z2 f0 f1 f2 hx
    subst eM
    refine bodyPost_ret (v := .tuple #[.agg #[.slice none 0 0, .slice none 0 0, .int .i64 0], .bool false]) (by simp [results, Try.results19, go_sem, q0, q1, q2]) rfl ⟨⟨_, rfl, OwS.zero V _⟩, hB⟩
  have H2 := dHide (h1.1 rfl)
  clear h1 C2
  have k0 := (dUnhide K w1 bl1).1 0 _ rfl
  have k1 := (dUnhide K w1 bl1).1 1 _ rfl
  by_cases hle : rs.length = ds.length
  · have hd : ((rs.length : Int) != (ds.length : Int)) = false := by rw [hle]; simp
    have HLE := dHide (show (rs.map Ps.m).length = ds.length by rw [dUnhide HLN]; exact hle)
    clear hle
    go_wp2_with fail
    refine (dUnhide C3 node _ (dUnhide K w1 bl1).2.2).mono ?_
    rintro e w3 ⟨⟨b3, rfl, h3⟩, rfl⟩
    cases b3
    · have eM := dUnhide PN (fun h => by have := h3.2 ((dUnhide PD).1 h).1.2.2; cases this)
      obtain ⟨XE, ZE, BE⟩ := dUnhide K w3 bl1
      obtain ⟨z0, f0⟩ := ZE.2 0 _ rfl
      obtain ⟨z1, f1⟩ := ZE.2 1 _ rfl
      obtain ⟨z2, f2⟩ := ZE.2 2 _ rfl
      obtain ⟨hx, hB⟩ := dUnhide FINZ w3 bl1
      clear XE ZE BE K FINZ PN PY C3 C6 CU HOM HNB HLN HV PD HPC C4 HUY h3 H2 HLE k0 k1
      go_wp2
      generalize ((w3.setCell ⟨w.heap.size + 1, 0, none⟩ (.slice none 0 0)).setCell ⟨w.heap.size + 1, 1, none⟩ (.slice none 0 0)).setCell ⟨w.heap.size + 1, 2, none⟩ (.int .i64 0) = V at *
      have q0 := hx 0 _ rfl
      have q1 := hx 1 _ rfl
      have q2 := hx 2 _ rfl
      clear z0 z1 z2 f0 f1 f2 hx
      subst eM
      refine bodyPost_ret (v := .tuple #[.agg #[.slice none 0 0, .slice none 0 0, .int .i64 0], .bool false]) (by simp [results, Try.results19, go_sem, q0, q1, q2]) rfl ⟨⟨_, rfl, OwS.zero V _⟩, hB⟩
    have H3 := dHide (h3.1 rfl)
    clear h3 k0 k1 C3
    go_wp2_with fail
    refine (dUnhide C4 _ (dUnhide K w3 bl1).2.2).mono ?_
    rintro e w4 ⟨⟨o, rfl, A4⟩, bl4⟩
    have hb4 := belowThen bl1 bl4
    have R4 := (ApR.own elemS A4).rw
    have CUk := dHide (dUnhide CU _ _ (dUnhide K w4 hb4).2.2 R4)
    clear C4 CU A4 bl4 R4
    go_wp2_with fail
    refine (dUnhide CUk).mono ?_
    rintro e w5 ⟨⟨u, ok, rfl, A5, hok⟩, bl5⟩
    have A5' := A5.mono (base' := w0.heap.size) hb4.size
    have hb5 := belowThen hb4 bl5
    clear CUk A5 bl5 hb4 bl1
    obtain ⟨ua, uc, rfl⟩ := ApR.slice elemE A5'
    generalize unM OT = UM at *
    have SB := Bx.new w5 [.slice ua UM.length uc, .slice none 0 0, .int .i64 upto] 26
    have bS := ba w5 (.cells #[.slice ua UM.length uc, .slice none 0 0, .int .i64 upto] 26)
    have hb6 := belowThen hb5 bS
    have A6 := A5'.below bS
    have HOK := dHide hok
    clear A5' hb5 bS hok
    cases ok
    · have GN : Hid (¬ FP) := fun h => by have := (dUnhide HOK).2 ((dUnhide PD).1 h).2.1; cases this
      have eM := dUnhide PN (dUnhide GN)
      obtain ⟨XE, ZE, BE⟩ := dUnhide K (w5.alloc (.cells #[.slice ua UM.length uc, .slice none 0 0, .int .i64 upto] 26)) hb6
      obtain ⟨z0, f0⟩ := ZE.2 0 _ rfl
      obtain ⟨z1, f1⟩ := ZE.2 1 _ rfl
      obtain ⟨z2, f2⟩ := ZE.2 2 _ rfl
      obtain ⟨hx, hB⟩ := dUnhide FINZ (w5.alloc (.cells #[.slice ua UM.length uc, .slice none 0 0, .int .i64 upto] 26)) hb6
      clear XE ZE BE K FINZ PN PY HOK GN A6 SB C6 HNB HLN PD HPC HOM HV HUY H2 H3 HLE
      go_wp2
      generalize (((w5.alloc (.cells #[.slice ua UM.length uc, .slice none 0 0, .int .i64 upto] 26)).setCell ⟨w.heap.size + 1, 0, none⟩ (.slice none 0 0)).setCell ⟨w.heap.size + 1, 1, none⟩ (.slice none 0 0)).setCell ⟨w.heap.size + 1, 2, none⟩ (.int .i64 0) = V at *
      have q0 := hx 0 _ rfl
      have q1 := hx 1 _ rfl
      have q2 := hx 2 _ rfl
      clear z0 z1 z2 f0 f1 f2 hx
      subst eM
      refine bodyPost_ret (v := .tuple #[.agg #[.slice none 0 0, .slice none 0 0, .int .i64 0], .bool false]) (by simp [results, Try.results19, go_sem, q0, q1, q2]) rfl ⟨⟨_, rfl, OwS.zero V _⟩, hB⟩
    · have HALL := dHide ((dUnhide HOK).1 rfl)
      have eU := dUnhide HUY (dUnhide HALL)
      subst eU
      clear HOK HUY
      go_wp2_with fail
      generalize hsb : w5.heap.size = sb at *
      generalize w5.alloc (.cells #[.slice ua UM.length uc, .slice none 0 0, .int .i64 upto] 26) = w6 at *
      clear hsb
      refine (dUnhide C6 _ _ (dUnhide K _ hb6).2.2 (ApR.own elemE A6).rw).mono ?_
      rintro r w7 ⟨⟨b7, rfl, h7⟩, bl7⟩
      have hb7 := belowThen hb6 bl7
      have A7 := A6.below bl7
      have SB7 := SB.below bl7
      have s0 := SB7 0 _ rfl
      have s1 := SB7 1 _ rfl
      have s2 := SB7 2 _ rfl
      clear SB A6 hb6 bl7 C6 SB7
      cases b7
      · have eM := dUnhide PN (fun h => by have := h7.2 ((dUnhide PD).1 h).2.2; cases this)
        obtain ⟨XE, ZE, BE⟩ := dUnhide K w7 hb7
        obtain ⟨z0, f0⟩ := ZE.2 0 _ rfl
        obtain ⟨z1, f1⟩ := ZE.2 1 _ rfl
        obtain ⟨z2, f2⟩ := ZE.2 2 _ rfl
        obtain ⟨hx, hB⟩ := dUnhide FINZ w7 hb7
        clear XE ZE BE K FINZ PN PY h7 A7 s0 s1 s2 HNB HLN PD HPC HOM HV HALL H2 H3 HLE
        go_wp2
        generalize ((w7.setCell ⟨w.heap.size + 1, 0, none⟩ (.slice none 0 0)).setCell ⟨w.heap.size + 1, 1, none⟩ (.slice none 0 0)).setCell ⟨w.heap.size + 1, 2, none⟩ (.int .i64 0) = V at *
        have q0 := hx 0 _ rfl
        have q1 := hx 1 _ rfl
        have q2 := hx 2 _ rfl
        clear z0 z1 z2 f0 f1 f2 hx
        subst eM
        refine bodyPost_ret (v := .tuple #[.agg #[.slice none 0 0, .slice none 0 0, .int .i64 0], .bool false]) (by simp [results, Try.results19, go_sem, q0, q1, q2]) rfl ⟨⟨_, rfl, OwS.zero V _⟩, hB⟩
      have eM := dUnhide PY ((dUnhide PD).2 ⟨⟨dUnhide HLE, dUnhide H2, dUnhide H3⟩, dUnhide HALL, h7.1 rfl⟩)
      obtain ⟨-, ZE, BE⟩ := dUnhide K w7 hb7
      obtain ⟨z0, f0⟩ := ZE.2 0 _ rfl
      obtain ⟨z1, f1⟩ := ZE.2 1 _ rfl
      obtain ⟨z2, f2⟩ := ZE.2 2 _ rfl
      have HX : Hid (Bx (((w7.setCell ⟨w.heap.size + 1, 0, none⟩ (.slice ua UM.length uc)).setCell ⟨w.heap.size + 1, 1, none⟩ (.slice none 0 0)).setCell ⟨w.heap.size + 1, 2, none⟩ (.int .i64 upto)) (w.heap.size + 1) [.slice ua UM.length uc, .slice none 0 0, .int .i64 upto]) := (((ZE.put 0 (.slice ua UM.length uc)).put 1 (.slice none 0 0)).put 2 (.int .i64 upto)).bx
      have HO : Hid (OwS (((w7.setCell ⟨w.heap.size + 1, 0, none⟩ (.slice ua UM.length uc)).setCell ⟨w.heap.size + 1, 1, none⟩ (.slice none 0 0)).setCell ⟨w.heap.size + 1, 2, none⟩ (.int .i64 upto)) w.heap.size (.agg #[.slice ua UM.length uc, .slice none 0 0, .int .i64 upto]) ⟨UM, [], upto⟩) := ((((OwS.kept (lk := upto) A7).far (b := w.heap.size + 1) (o := 0) hlt (.slice ua UM.length uc)).far (b := w.heap.size + 1) (o := 1) hlt (.slice none 0 0)).far (b := w.heap.size + 1) (o := 2) hlt (.int .i64 upto)).mono hw0
      have HB : Hid (Below w.heap.size w (((w7.setCell ⟨w.heap.size + 1, 0, none⟩ (.slice ua UM.length uc)).setCell ⟨w.heap.size + 1, 1, none⟩ (.slice none 0 0)).setCell ⟨w.heap.size + 1, 2, none⟩ (.int .i64 upto))) := ((BE.setCell (p := ⟨w.heap.size + 1, 0, none⟩) (by simp only; omega) _).setCell (p := ⟨w.heap.size + 1, 1, none⟩) (by simp only; omega) _).setCell (p := ⟨w.heap.size + 1, 2, none⟩) (by simp only; omega) _
      clear ZE BE A7 h7 PD PY PN K FINZ HNB HLN HPC HOM HALL H2 H3 HLE hb7 HV
      go_wp2
      generalize ((w7.setCell ⟨w.heap.size + 1, 0, none⟩ (.slice ua UM.length uc)).setCell ⟨w.heap.size + 1, 1, none⟩ (.slice none 0 0)).setCell ⟨w.heap.size + 1, 2, none⟩ (.int .i64 upto) = V at *
      have q0 := dUnhide HX 0 _ rfl
      have q1 := dUnhide HX 1 _ rfl
      have q2 := dUnhide HX 2 _ rfl
      clear z0 z1 z2 f0 f1 f2 s0 s1 s2
      subst eM
      refine bodyPost_ret (v := .tuple #[.agg #[.slice ua UM.length uc, .slice none 0 0, .int .i64 upto], .bool true]) (by simp [results, Try.results19, go_sem, q0, q1, q2]) rfl ⟨⟨_, rfl, dUnhide HO⟩, dUnhide HB⟩
  · have hd : ((rs.length : Int) != (ds.length : Int)) = true := by simp; omega
    have eM := dUnhide PN (fun h => hle (by rw [← dUnhide HLN]; exact ((dUnhide PD).1 h).1.1))
    obtain ⟨XE, ZE, BE⟩ := dUnhide K w1 bl1
    obtain ⟨z0, f0⟩ := ZE.2 0 _ rfl
    obtain ⟨z1, f1⟩ := ZE.2 1 _ rfl
    obtain ⟨z2, f2⟩ := ZE.2 2 _ rfl
    obtain ⟨hx, hB⟩ := dUnhide FINZ w1 bl1
    clear XE ZE BE K FINZ PN PY C3 C6 CU HOM HNB HLN HV PD HPC C4 HUY H2
    go_wp2
    generalize ((w1.setCell ⟨w.heap.size + 1, 0, none⟩ (.slice none 0 0)).setCell ⟨w.heap.size + 1, 1, none⟩ (.slice none 0 0)).setCell ⟨w.heap.size + 1, 2, none⟩ (.int .i64 0) = V at *
    have q0 := hx 0 _ rfl
    have q1 := hx 1 _ rfl
    have q2 := hx 2 _ rfl
    clear z0 z1 z2 f0 f1 f2 hx
    subst eM
    refine bodyPost_ret (v := .tuple #[.agg #[.slice none 0 0, .slice none 0 0, .int .i64 0], .bool false]) (by simp [results, Try.results19, go_sem, q0, q1, q2]) rfl ⟨⟨_, rfl, OwS.zero V _⟩, hB⟩
theorem implFill_any (cv v lv : Value) (ds : List Int) (cop : Int) (ms : List St) (lost : List Int) (node upto : Int) (w : World) (hc : Ns w cv ds) (hv : RdStoreS v ms w) (hlo : Ns w lv lost) (hf : ∀ m ∈ ms, fitS m) (hl : sizStoreS ms ≤ 1048576) (hal : allInt lost) (hll : lost.length ≤ 1048576) (had : allInt ds) (hld : ds.length ≤ 1048576) (c0 : -9223372036854775808 ≤ cop) (c1 : cop ≤ 9223372036854775807) (u0 : -9223372036854775808 ≤ upto) (u1 : upto ≤ 9223372036854775807) :
    Calls Try.prog 19 #[.agg #[cv, .int .i64 cop], v, lv, .int .i64 node, .int .i64 upto] w fun r w' => (∃ u, r = .returned (.tuple #[u, .bool (fillM ds cop ms lost node upto).2]) ∧ OwS w' w.heap.size u (fillM ds cop ms lost node upto).1) ∧ Below w.heap.size w w' :=
  implFill_q cv v lv ds cop ms lost node upto w hc hv hlo hf (smlU_of hl) hal hll had hld c0 c1 u0 u1
end Go.Proofs.Ytejmfohkobhidaa
