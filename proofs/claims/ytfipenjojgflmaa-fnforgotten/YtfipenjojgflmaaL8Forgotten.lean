/- The walk of the law FnForgotten (printed by tools/mkl8f.py). -/
import Derived.Test.YtfipenjojgflmaaFgA
import Derived.Test.YtfipenjojgflmaaDwF
import Derived.Test.YtfipenjojgflmaaWithN
import Derived.Test.YtfipenjojgflmaaBigB
import Derived.Test.YtfipenjojgflmaaGaA
import Derived.Deep.DeepCutAuto
namespace Go.Proofs.Ytfipenjojgflmaa
open Go.ChangeShapes Go.WideShapes Go.ChangeAt Go.RowKit
set_option linter.unusedVariables false
set_option linter.unusedSimpArgs false

set_option maxHeartbeats 16000000 in
set_option maxRecDepth 100000 in
theorem walkFnForgotten (a0 : Option Addr) (len0 cap0 : Nat) (z0 : List Int) (w : World) (w0 : IsRow .u8 w a0 len0 cap0 z0) :
    Calls Try.prog 5 #[.slice a0 len0 cap0] w fun e w' => e = .returned (.bool true) ∧ Below w.heap.size w w' := by
  have hr := row8_of w0
  have hlen := hr.1
  clear w0
  by_cases hbig : 1048576 < len0
  · have CB := dHide (big_yes a0 len0 cap0 hbig hlen)
    go_enter Try.func5, Try.ntmps5
    go_wp2_with fail
    refine (dUnhide CB _).mono ?_
    rintro e w1 ⟨rfl, rfl⟩
    go_wp2
    go_ret
    exact ⟨rfl, Below.refl _ _⟩
  have CB := dHide (big_no a0 len0 cap0 hbig)
  have CD := dHide (drawWriterForget_any a0 len0 cap0 w hr)
  have ba : ∀ (w : World) o, Below w.heap.size w (w.alloc o) := fun w o => (Below.refl _ _).alloc (Nat.le_refl _) o
  clear hbig hr
  go_enter Try.func5, Try.ntmps5
  go_wp2_with fail
  refine (dUnhide CB _).mono ?_
  rintro e w1 ⟨rfl, rfl⟩
  clear CB
  go_wp2_with fail
  refine (dUnhide CD).mono ?_
  rintro e w1 ⟨⟨cv, rv, ds, cop, m, x, rfl, ⟨⟨ca, cc, rfl, N1⟩, hdl, hdd, hcop, ⟨a, c, rfl⟩, R1, hf⟩, okx⟩, B1⟩
  clear CD
  have okc : okConfig (ds, cop) := ⟨fun d hd => by have := hdd d hd; omega, by show -9223372036854775808 ≤ cop; omega, by show cop ≤ 9223372036854775807; omega⟩
  have hsc : sizConfig (ds, cop) ≤ 1048576 := by show ds.length ≤ 1048576; omega
  have bA := ba w1 (.cells #[.slice ca ds.length cc, .int .i64 cop] 26)
  have bB := ba (w1.alloc (.cells #[.slice ca ds.length cc, .int .i64 cop] 26)) (.cells #[.int .i64 m.epoch, .slice a m.words.length c] 29)
  have bb := belowThen bA bB
  have X2 := (Bx.new w1 [.slice ca ds.length cc, .int .i64 cop] 26).below bB
  have Y2 := Bx.new (w1.alloc (.cells #[.slice ca ds.length cc, .int .i64 cop] 26)) [.int .i64 m.epoch, .slice a m.words.length c] 29
  rw [show (w1.alloc (.cells #[.slice ca ds.length cc, .int .i64 cop] 26)).heap.size = w1.heap.size + 1 from by simp] at Y2
  have N2 := N1.below bb
  have R2 := R1.below bb
  have B2 := belowThen B1 bb
  clear bA bB N1 R1 B1 bb
  go_wp2_with fail
  generalize (w1.alloc (.cells #[.slice ca ds.length cc, .int .i64 cop] 26)).alloc (.cells #[.int .i64 m.epoch, .slice a m.words.length c] 29) = w5 at *
  generalize w1.heap.size = cb at *
  have C1 := implForget_any _ _ (ds, cop) m x w5 ⟨_, rfl, N2⟩ R2 okc hf.ok hsc (hf.siz (by omega))
  have C2 := fun W (hb : Below w5.heap.size w5 W) => specForget_any _ _ (ds, cop) m x W ⟨_, rfl, N2.below hb⟩ (R2.below hb) (hf.siz (by omega))
  have CO := fun W (hb : Below w5.heap.size w5 W) v' m' (hv : RdWriter v' m' W) ok hs => implWriterOk_any (.agg #[.slice ca ds.length cc, .int .i64 cop]) v' (ds, cop) m' W ⟨_, rfl, N2.below hb⟩ hv okc ok hsc hs
  have TF : Hid ((forgM ds cop m x).2 = false → (forgM ds cop m x).1 = zeroWt) := fun h => by
    by_cases hp : wrP ds cop m
    · rw [forgM_yes hp] at h; cases h
    · rw [forgM_bad hp]
  have TT : Hid ((forgM ds cop m x).2 = true → wrP ds cop m ∧ (forgM ds cop m x).1 = ⟨m.epoch, m.words.map (forgW x)⟩) := fun h => by
    by_cases hp : wrP ds cop m
    · rw [forgM_yes hp]; exact ⟨hp, rfl⟩
    · rw [forgM_bad hp] at h; cases h
  simp only at C1 C2 CO
  generalize forgM ds cop m x = T at *
  obtain ⟨n, nb⟩ := T
  simp only at *
  replace C1 := dHide C1
  replace C2 := dHide C2
  replace CO := dHide CO
  refine (dUnhide C1).mono ?_
  rintro e w6 ⟨⟨u3, rfl, O3⟩, b3⟩
  obtain ⟨a3, c3, rfl⟩ := O3.slice
  have bC := ba w6 (.cells #[.int .i64 n.epoch, .slice a3 n.words.length c3] 29)
  have b4 := belowThen b3 bC
  have X4 := X2.below b4
  have Y4 := Y2.below b4
  have Z4 := Bx.new w6 [.int .i64 n.epoch, .slice a3 n.words.length c3] 29
  have R4 := RdK.below O3.rd bC
  have B4 := belowThen B2 b4
  have C24 := dHide (dUnhide C2 _ b4)
  have x0 := X4 0 _ rfl
  have x1 := X4 1 _ rfl
  have y0 := Y4 0 _ rfl
  have y1 := Y4 1 _ rfl
  clear C1 C2 O3 X2 Y2 B2 b3 bC
  go_wp2_with fail
  generalize hnb : w6.heap.size = nx at *
  generalize w6.alloc (.cells #[.int .i64 n.epoch, .slice a3 n.words.length c3] 29) = w7 at *
  refine (dUnhide C24).mono ?_
  rintro e w8 ⟨⟨u5, rfl, O5⟩, b5⟩
  obtain ⟨a5, c5, rfl⟩ := O5.slice
  have bD := ba w8 (.cells #[.int .i64 n.epoch, .slice a5 n.words.length c5] 29)
  have b6 := belowThen b5 bD
  have b46 := belowThen b4 b6
  have X6 := X4.below b6
  have Y6 := Y4.below b6
  have Z6 := Z4.below b6
  have R6 := RdK.below R4 b6
  have B6 := belowThen B4 b6
  have RM := R2.below b46
  clear C24 O5 X4 Y4 Z4 R4 B4 b5 bD x0 x1 y0 y1 b6 b4 R2 N2
  have y1 := Y6 1 _ rfl
  have z1' := Z6 1 _ rfl
  cases nb
  · have hT := dUnhide TF rfl
    clear TF TT
    subst hT
    have ez : zeroWt.words.length = 0 := rfl
    have ez2 : zeroWt.epoch = 0 := rfl
    simp only [ez, ez2] at *
    go_wp2
    go_ret
    exact ⟨rfl, B6⟩
  obtain ⟨hwr, hn⟩ := dUnhide TT rfl
  clear TF TT
  have hwr' : wrP ds cop n := by rw [hn]; exact forg_wr hwr
  have hel : m.words.length ≤ 60 := hf.1
  have hfn : fitW 60 n := by
    rw [hn]
    refine ⟨by simpa using hf.1, fun e he => ?_, hf.2.2⟩
    obtain ⟨e', he', rfl⟩ := List.mem_map.1 he
    obtain ⟨q1, q2, q3⟩ := hf.2.1 e' he'
    cases hd : e'.done with
    | true => rw [forgW_done hd]; exact ⟨q1, q2, q3⟩
    | false =>
      rw [forgW_open hd]
      exact ⟨q1, Nat.le_trans (lessL_len _ _) q2, fun z hz => q3 z (lessL_sub z hz)⟩
  have hnl : n.words.length = m.words.length := by rw [hn]; simp
  have hsu : sureL n.words = sureL m.words := by rw [hn]; exact forg_sure x _
  have HE : Hid (∀ i (hi : i < m.words.length) (hi' : i < n.words.length), n.words[i] = forgW x m.words[i]) := fun i hi hi' => by
    subst hn
    simp
  have CF1 := dHide fun W (hb : Below (w8.alloc (.cells #[.int .i64 n.epoch, .slice a5 n.words.length c5] 29)).heap.size (w8.alloc (.cells #[.int .i64 n.epoch, .slice a5 n.words.length c5] 29)) W) => specSure_any _ m W (RM.below hb)
  have CF2 := dHide fun W (hb : Below (w8.alloc (.cells #[.int .i64 n.epoch, .slice a5 n.words.length c5] 29)).heap.size (w8.alloc (.cells #[.int .i64 n.epoch, .slice a5 n.words.length c5] 29)) W) => implSure_any (.agg #[.int .i64 n.epoch, .slice a3 n.words.length c3]) n W (by omega) ⟨_, rfl, RdK.below R6 hb⟩
  have CO6 := dHide fun W (hb : Below (w8.alloc (.cells #[.int .i64 n.epoch, .slice a5 n.words.length c5] 29)).heap.size (w8.alloc (.cells #[.int .i64 n.epoch, .slice a5 n.words.length c5] 29)) W) => retB_yes (dUnhide CO W (belowThen b46 hb) (.agg #[.int .i64 n.epoch, .slice a3 n.words.length c3]) n ⟨_, rfl, RdK.below R6 hb⟩ hfn.ok (hfn.siz (by omega))) hwr'
  rw [hsu] at CF2
  have HNL := dHide hnl
  clear CO hn hwr hwr' hfn hnl hsu
  go_wp2_with fail
  generalize w8.alloc (.cells #[.int .i64 n.epoch, .slice a5 n.words.length c5] 29) = wa at *
  have hnl := dUnhide HNL
  have HX := dHide fun W (hb : Below wa.heap.size wa W) => X6.below hb
  have HY := dHide fun W (hb : Below wa.heap.size wa W) => Y6.below hb
  have HZ := dHide fun W (hb : Below wa.heap.size wa W) => Z6.below hb
  obtain ⟨sm, em, rm, hmm, hrm, hnm⟩ := RM
  cases em
  obtain ⟨rn, hmn, hrn, hnn⟩ := R6
  have HRM := dHide fun W (hb : Below wa.heap.size wa W) => hrm.below hb
  have HRN := dHide fun W (hb : Below wa.heap.size wa W) => hrn.below hb
  have HNM := dHide fun W (hb : Below wa.heap.size wa W) p (hp : p ∈ rm) => (hnm p hp).below hb
  have HNN := dHide fun W (hb : Below wa.heap.size wa W) p (hp : p ∈ rn) => (hnn p hp).below hb
  have lm : rm.length = m.words.length := by rw [← hmm, List.length_map]
  have ln : rn.length = m.words.length := by rw [← hnl, ← hmn, List.length_map]
  have HM : Hid (∀ i (h : i < rm.length) (h' : i < m.words.length), rm[i].m = m.words[i]) := fun i h h' => by simp only [← hmm, List.getElem_map]
  have HN : Hid (∀ i (h : i < rn.length) (h' : i < n.words.length), rn[i].m = n.words[i]) := fun i h h' => by simp only [← hmn, List.getElem_map]
  clear X6 Y6 Z6 hrm hrn hmm hmn hnm hnn y1 z1' b46
  rw [hnl] at HZ HRN CF2 CO6
  clear hnl
  go_wp2
  go_loopw [10] (fun q wr => ∃ i : Nat, q = .int .i64 (i : Int) ∧ i ≤ m.words.length ∧ Below wa.heap.size wa wr) (fun q _ => m.words.length - (intOf q).toNat)
  case atStart => exact ⟨0, rfl, Nat.zero_le _, Below.refl _ _⟩
  case round =>
    obtain ⟨i, rfl, hi, hb⟩ := hrel
    have y1 := dUnhide HY wr hb 1 _ rfl
    have z1 := dUnhide HZ wr hb 1 _ rfl
    by_cases hlt : (i : Int) < (m.words.length : Int)
    · have hil : i < m.words.length := by omega
      obtain ⟨b, off, rfl, hce⟩ := (dUnhide HRM wr hb).word (show i < rm.length by omega)
      obtain ⟨b', off', rfl, hce'⟩ := (dUnhide HRN wr hb).word (show i < rn.length by omega)
      have hp1 := hce i (by omega)
      have hq1 := hce' i (by omega)
      have np := dUnhide HNM wr hb _ (List.getElem_mem (show i < rm.length by omega))
      have nq := dUnhide HNN wr hb _ (List.getElem_mem (show i < rn.length by omega))
      have ep := dUnhide HM i (by omega) hil
      have hin : i < n.words.length := by have := dUnhide HNL; omega
      have eq := dUnhide HN i (by omega) hin
      rw [dUnhide HE i hil hin, ← ep] at eq
      clear hin
      generalize rm[i] = p at *
      generalize rn[i] = q at *
      generalize m.words[i] = pm at *
      unfold Sv at np nq
      have PP : Hid (∀ W, Below wr.heap.size wr W → (W.cell? ⟨cb + 1, 1, none⟩ = some (.slice (some ⟨b, off, none⟩) m.words.length c) ∧ W.cell? ⟨nx, 1, none⟩ = some (.slice (some ⟨b', off', none⟩) m.words.length c3)) ∧ (W.cell? ⟨b, off + i * 3, none⟩ = some (.string p.m.data) ∧ W.cell? ⟨b, off + i * 3 + 1, none⟩ = some (.slice p.a p.m.acks.length p.c) ∧ W.cell? ⟨b, off + i * 3 + 2, none⟩ = some (.bool p.m.done)) ∧ (W.cell? ⟨b', off' + i * 3, none⟩ = some (.string q.m.data) ∧ W.cell? ⟨b', off' + i * 3 + 1, none⟩ = some (.slice q.a q.m.acks.length q.c) ∧ W.cell? ⟨b', off' + i * 3 + 2, none⟩ = some (.bool q.m.done))) := fun W hW => ⟨⟨dUnhide HY W (belowThen hb hW) 1 _ rfl, dUnhide HZ W (belowThen hb hW) 1 _ rfl⟩, hp1.below hW, hq1.below hW⟩
      have NP := dHide fun W (hW : Below wr.heap.size wr W) => np.below hW
      have NQ := dHide fun W (hW : Below wr.heap.size wr W) => nq.below hW
      have bdr : Below wr.heap.size wr wr.drew := (Below.refl _ _).drew
      have EQ := dHide eq
      clear hce hce' hp1 hq1 np nq eq ep HM HN HE HRM HRN HNM HNN CF1 CF2 CO6
      go_wp2_with fail
      go_cut [11, 12] (fun s1 s2 wx => ∃ b1 b2, s1 = .pointer (some ⟨b1, 0, none⟩) ∧ s2 = .pointer (some ⟨b2, 0, none⟩) ∧ Bx wx b1 [.string p.m.data, .slice p.a p.m.acks.length p.c, .bool p.m.done] ∧ Bx wx b2 [.string q.m.data, .slice q.a q.m.acks.length q.c, .bool q.m.done] ∧ Below wr.heap.size wr wx)
      case first =>
        refine wp_region_noPanic ?_
        refine wp_region_held_drew (S := fun W => (W.cell? ⟨cb + 1, 1, none⟩ = some (.slice (some ⟨b, off, none⟩) m.words.length c) ∧ W.cell? ⟨nx, 1, none⟩ = some (.slice (some ⟨b', off', none⟩) m.words.length c3)) ∧ (W.cell? ⟨b, off + i * 3, none⟩ = some (.string p.m.data) ∧ W.cell? ⟨b, off + i * 3 + 1, none⟩ = some (.slice p.a p.m.acks.length p.c) ∧ W.cell? ⟨b, off + i * 3 + 2, none⟩ = some (.bool p.m.done)) ∧ (W.cell? ⟨b', off' + i * 3, none⟩ = some (.string q.m.data) ∧ W.cell? ⟨b', off' + i * 3 + 1, none⟩ = some (.slice q.a q.m.acks.length q.c) ∧ W.cell? ⟨b', off' + i * 3 + 2, none⟩ = some (.bool q.m.done))) (by kernel_rfl) (by first | with_reducible exact dUnhide PP _ hwd | exact dUnhide PP _ (Below.refl _ _) | exact dUnhide PP _ bdr | go_keep) (fun hHeld => ?_)
        have hwd : Below wr.heap.size wr wr.drew := (Below.refl _ _).drew
        generalize wr.drew = wd at *
        refine wpAnyH_take (i := 0) (oi := { dst := some 51, op := Op.fieldAddr 29 (Operand.tmp 4) 1, type := 0, pos := "laws.go:669", after := #[], guard := none }) (v := ?_) rfl (by kernel_rfl) (by kernel_rfl) (by kernel_rfl) (fun _ _ _ h => h) (Or.inl ⟨by rfl, ?_⟩) (by assumption) ?_
        rotate_left 1
        · intro w hSw
          (try dsimp only at hSw)
          first | (go_simp; done) | (go_simp; with_reducible rfl)
        try simp only [Act.put, List.setIfInBounds_toArray, List.set_cons_zero, List.set_cons_succ]
        refine wpAnyH_take (i := 1) (oi := { dst := some 52, op := Op.load 27 (Operand.tmp 51), type := 27, pos := "laws.go:669", after := #[{ on := 0, ground := Ground.data }], guard := none }) (v := ?_) rfl (by kernel_rfl) (by kernel_rfl) (by kernel_rfl) (fun _ _ _ h => h) (Or.inl ⟨by rfl, ?_⟩) (by assumption) ?_
        rotate_left 1
        · intro w hSw
          (try dsimp only at hSw)
          first | (go_simp; done) | (go_simp; with_reducible rfl)
        try simp only [Act.put, List.setIfInBounds_toArray, List.set_cons_zero, List.set_cons_succ]
        refine wpAnyH_take (i := 2) (oi := { dst := some 53, op := Op.move (Operand.tmp 10), type := 3, pos := "laws.go:669", after := #[], guard := none }) (v := ?_) rfl (by kernel_rfl) (by kernel_rfl) (by kernel_rfl) (fun _ _ _ h => h) (Or.inl ⟨by rfl, ?_⟩) (by assumption) ?_
        rotate_left 1
        · intro w hSw
          (try dsimp only at hSw)
          first | (go_simp; done) | (go_simp; with_reducible rfl)
        try simp only [Act.put, List.setIfInBounds_toArray, List.set_cons_zero, List.set_cons_succ]
        refine wpAnyH_take (i := 3) (oi := { dst := some 54, op := Op.indexAddr 27 (Operand.tmp 52) (Operand.tmp 53), type := 0, pos := "laws.go:669", after := #[{ on := 1, ground := Ground.data }, { on := 2, ground := Ground.data }], guard := none }) (v := ?_) rfl (by kernel_rfl) (by kernel_rfl) (by kernel_rfl) (fun _ _ _ h => h) (Or.inl ⟨by rfl, ?_⟩) (by assumption) ?_
        rotate_left 1
        · intro w hSw
          (try dsimp only at hSw)
          first | (go_simp; done) | (go_simp; with_reducible rfl)
        try simp only [Act.put, List.setIfInBounds_toArray, List.set_cons_zero, List.set_cons_succ]
        refine wpAnyH_take (i := 4) (oi := { dst := some 55, op := Op.load 35 (Operand.tmp 54), type := 35, pos := "laws.go:669", after := #[{ on := 3, ground := Ground.data }], guard := none }) (v := ?_) rfl (by kernel_rfl) (by kernel_rfl) (by kernel_rfl) (fun _ _ _ h => h) (Or.inl ⟨by rfl, ?_⟩) (by assumption) ?_
        rotate_left 1
        · intro w hSw
          (try dsimp only at hSw)
          first | (go_simp; done) | (go_simp; with_reducible rfl)
        try simp only [Act.put, List.setIfInBounds_toArray, List.set_cons_zero, List.set_cons_succ]
        refine wpAnyH_take (i := 5) (oi := { dst := some 56, op := Op.fieldAddr 29 (Operand.tmp 6) 1, type := 0, pos := "laws.go:669", after := #[{ on := 12, ground := Ground.gcOnly Departure.lateStores }], guard := none }) (v := ?_) rfl (by kernel_rfl) (by kernel_rfl) (by kernel_rfl) (fun _ _ _ h => h) (Or.inl ⟨by rfl, ?_⟩) (by assumption) ?_
        rotate_left 1
        · intro w hSw
          (try dsimp only at hSw)
          first | (go_simp; done) | (go_simp; with_reducible rfl)
        try simp only [Act.put, List.setIfInBounds_toArray, List.set_cons_zero, List.set_cons_succ]
        refine wpAnyH_take (i := 6) (oi := { dst := some 57, op := Op.load 27 (Operand.tmp 56), type := 27, pos := "laws.go:669", after := #[{ on := 5, ground := Ground.data }, { on := 12, ground := Ground.gcOnly Departure.lateStores }], guard := none }) (v := ?_) rfl (by kernel_rfl) (by kernel_rfl) (by kernel_rfl) (fun _ _ _ h => h) (Or.inl ⟨by rfl, ?_⟩) (by assumption) ?_
        rotate_left 1
        · intro w hSw
          (try dsimp only at hSw)
          first | (go_simp; done) | (go_simp; with_reducible rfl)
        try simp only [Act.put, List.setIfInBounds_toArray, List.set_cons_zero, List.set_cons_succ]
        refine wpAnyH_take (i := 7) (oi := { dst := some 58, op := Op.move (Operand.tmp 10), type := 3, pos := "laws.go:669", after := #[{ on := 12, ground := Ground.gcOnly Departure.lateStores }], guard := none }) (v := ?_) rfl (by kernel_rfl) (by kernel_rfl) (by kernel_rfl) (fun _ _ _ h => h) (Or.inl ⟨by rfl, ?_⟩) (by assumption) ?_
        rotate_left 1
        · intro w hSw
          (try dsimp only at hSw)
          first | (go_simp; done) | (go_simp; with_reducible rfl)
        try simp only [Act.put, List.setIfInBounds_toArray, List.set_cons_zero, List.set_cons_succ]
        refine wpAnyH_take (i := 8) (oi := { dst := some 59, op := Op.indexAddr 27 (Operand.tmp 57) (Operand.tmp 58), type := 0, pos := "laws.go:669", after := #[{ on := 6, ground := Ground.data }, { on := 7, ground := Ground.data }, { on := 12, ground := Ground.gcOnly Departure.lateStores }], guard := none }) (v := ?_) rfl (by kernel_rfl) (by kernel_rfl) (by kernel_rfl) (fun _ _ _ h => h) (Or.inl ⟨by rfl, ?_⟩) (by assumption) ?_
        rotate_left 1
        · intro w hSw
          (try dsimp only at hSw)
          first | (go_simp; done) | (go_simp; with_reducible rfl)
        try simp only [Act.put, List.setIfInBounds_toArray, List.set_cons_zero, List.set_cons_succ]
        refine wpAnyH_take (i := 9) (oi := { dst := some 60, op := Op.load 35 (Operand.tmp 59), type := 35, pos := "laws.go:669", after := #[{ on := 8, ground := Ground.data }, { on := 12, ground := Ground.gcOnly Departure.lateStores }], guard := none }) (v := ?_) rfl (by kernel_rfl) (by kernel_rfl) (by kernel_rfl) (fun _ _ _ h => h) (Or.inl ⟨by rfl, ?_⟩) (by assumption) ?_
        rotate_left 1
        · intro w hSw
          (try dsimp only at hSw)
          first | (go_simp; done) | (go_simp; with_reducible rfl)
        try simp only [Act.put, List.setIfInBounds_toArray, List.set_cons_zero, List.set_cons_succ]
        refine wpAnyH_ready (rs := [10, 11]) (by kernel_rfl) (by simp) ?_
        refine AllReadyH.cons (o := { dst := some 11, op := Op.alloc 35, type := 0, pos := "laws.go:669", after := #[], guard := none }) rfl (fun K hK => ?_) (AllReadyH.cons (o := { dst := some 12, op := Op.alloc 35, type := 0, pos := "laws.go:669", after := #[], guard := none }) rfl (fun K hK => ?_) AllReadyH.nil)
        · go_simp
          have N1 := BxZ.new (B := 0) wd [.string ⟨#[]⟩, .slice none 0 0, .bool false] 35 (Nat.zero_le _)
          have es : (wd.alloc (.cells #[.string ⟨#[]⟩, .slice none 0 0, .bool false] 35)).heap.size = wd.heap.size + 1 := by simp
          have ln1 : wr.heap.size ≤ wd.heap.size := hwd.size
          try replace N2 := N2.below (ba wd (.cells #[.string ⟨#[]⟩, .slice none 0 0, .bool false] 35))
          try (have hne : b2 ≠ wd.heap.size := by omega)
          replace hwd := belowThen hwd (ba wd (.cells #[.string ⟨#[]⟩, .slice none 0 0, .bool false] 35))
          have lt1 : wd.heap.size < (wd.alloc (.cells #[.string ⟨#[]⟩, .slice none 0 0, .bool false] 35)).heap.size := by omega
          try (replace lt2 : b2 < (wd.alloc (.cells #[.string ⟨#[]⟩, .slice none 0 0, .bool false] 35)).heap.size := by omega)
          clear es
          generalize wd.heap.size = b1 at *
          generalize wd.alloc (.cells #[.string ⟨#[]⟩, .slice none 0 0, .bool false] 35) = wd at *
          refine hK.out _ _ (by first | with_reducible exact dUnhide PP _ hwd | exact dUnhide PP _ (Below.refl _ _) | exact dUnhide PP _ bdr | go_keep) (fun hHeld => ?_)
          clear hK K
          try simp only [Act.put, List.setIfInBounds_toArray, List.set_cons_zero, List.set_cons_succ]
          refine wpAnyH_ready (rs := [11]) (by kernel_rfl) (by simp) ?_
          refine AllReadyH.cons (o := { dst := some 12, op := Op.alloc 35, type := 0, pos := "laws.go:669", after := #[], guard := none }) rfl (fun K hK => ?_) AllReadyH.nil
          go_simp
          have N2 := BxZ.new (B := 0) wd [.string ⟨#[]⟩, .slice none 0 0, .bool false] 35 (Nat.zero_le _)
          have es : (wd.alloc (.cells #[.string ⟨#[]⟩, .slice none 0 0, .bool false] 35)).heap.size = wd.heap.size + 1 := by simp
          have ln2 : wr.heap.size ≤ wd.heap.size := hwd.size
          try replace N1 := N1.below (ba wd (.cells #[.string ⟨#[]⟩, .slice none 0 0, .bool false] 35))
          try (have hne : b1 ≠ wd.heap.size := by omega)
          replace hwd := belowThen hwd (ba wd (.cells #[.string ⟨#[]⟩, .slice none 0 0, .bool false] 35))
          have lt2 : wd.heap.size < (wd.alloc (.cells #[.string ⟨#[]⟩, .slice none 0 0, .bool false] 35)).heap.size := by omega
          try (replace lt1 : b1 < (wd.alloc (.cells #[.string ⟨#[]⟩, .slice none 0 0, .bool false] 35)).heap.size := by omega)
          clear es
          generalize wd.heap.size = b2 at *
          generalize wd.alloc (.cells #[.string ⟨#[]⟩, .slice none 0 0, .bool false] 35) = wd at *
          refine hK.out _ _ (by first | with_reducible exact dUnhide PP _ hwd | exact dUnhide PP _ (Below.refl _ _) | exact dUnhide PP _ bdr | go_keep) (fun hHeld => ?_)
          clear hK K
          try simp only [Act.put, List.setIfInBounds_toArray, List.set_cons_zero, List.set_cons_succ]
          refine wpAnyH_ready (rs := [12]) (by kernel_rfl) (by simp) ?_
          refine AllReadyH.cons (o := { dst := none, op := Op.store 35 (Operand.tmp 11) (Operand.tmp 55), type := 0, pos := "laws.go:669", after := #[{ on := 10, ground := Ground.data }, { on := 4, ground := Ground.data }, { on := 0, ground := Ground.phase }, { on := 1, ground := Ground.phase }, { on := 2, ground := Ground.phase }, { on := 3, ground := Ground.phase }, { on := 4, ground := Ground.phase }, { on := 5, ground := Ground.textOnly Departure.lateStores }, { on := 6, ground := Ground.textOnly Departure.lateStores }, { on := 7, ground := Ground.textOnly Departure.lateStores }, { on := 8, ground := Ground.textOnly Departure.lateStores }, { on := 9, ground := Ground.textOnly Departure.lateStores }, { on := 10, ground := Ground.phase }, { on := 11, ground := Ground.phase }], guard := none }) rfl (fun K hK => ?_) AllReadyH.nil
          obtain ⟨g0, h0⟩ := N1.2 0 _ rfl
          obtain ⟨g1, h1⟩ := N1.2 1 _ rfl
          obtain ⟨g2, h2⟩ := N1.2 2 _ rfl
          go_simp
          have M1 := ((N1.put 0 (.string p.m.data)).put 1 (.slice p.a p.m.acks.length p.c)).put 2 (.bool p.m.done)
          replace N2 := ((N2.far (b' := b1) (o := 0) (by omega) (.string p.m.data)).far (b' := b1) (o := 1) (by omega) (.slice p.a p.m.acks.length p.c)).far (b' := b1) (o := 2) (by omega) (.bool p.m.done)
          replace hwd := ((hwd.setCell (p := ⟨b1, 0, none⟩) ln1 (.string p.m.data)).setCell (p := ⟨b1, 1, none⟩) ln1 (.slice p.a p.m.acks.length p.c)).setCell (p := ⟨b1, 2, none⟩) ln1 (.bool p.m.done)
          clear g0 g1 g2 h0 h1 h2
          generalize ((wd.setCell ⟨b1, 0, none⟩ (.string p.m.data)).setCell ⟨b1, 1, none⟩ (.slice p.a p.m.acks.length p.c)).setCell ⟨b1, 2, none⟩ (.bool p.m.done) = wd at *
          refine hK.out _ _ (by first | with_reducible exact dUnhide PP _ hwd | exact dUnhide PP _ (Below.refl _ _) | exact dUnhide PP _ bdr | go_keep) (fun hHeld => ?_)
          clear hK K
          try simp only [Act.put, List.setIfInBounds_toArray, List.set_cons_zero, List.set_cons_succ]
          refine wpAnyH_ready (rs := [13]) (by kernel_rfl) (by simp) ?_
          refine AllReadyH.cons (o := { dst := none, op := Op.store 35 (Operand.tmp 12) (Operand.tmp 60), type := 0, pos := "laws.go:669", after := #[{ on := 11, ground := Ground.data }, { on := 9, ground := Ground.data }, { on := 12, ground := Ground.chain }, { on := 0, ground := Ground.phase }, { on := 1, ground := Ground.phase }, { on := 2, ground := Ground.phase }, { on := 3, ground := Ground.phase }, { on := 4, ground := Ground.phase }, { on := 5, ground := Ground.phase }, { on := 6, ground := Ground.phase }, { on := 7, ground := Ground.phase }, { on := 8, ground := Ground.phase }, { on := 9, ground := Ground.phase }, { on := 10, ground := Ground.phase }, { on := 11, ground := Ground.phase }, { on := 12, ground := Ground.phase }], guard := none }) rfl (fun K hK => ?_) AllReadyH.nil
          obtain ⟨g0, h0⟩ := N2.2 0 _ rfl
          obtain ⟨g1, h1⟩ := N2.2 1 _ rfl
          obtain ⟨g2, h2⟩ := N2.2 2 _ rfl
          go_simp
          have M2 := ((N2.put 0 (.string q.m.data)).put 1 (.slice q.a q.m.acks.length q.c)).put 2 (.bool q.m.done)
          replace M1 := ((M1.far (b' := b2) (o := 0) (by omega) (.string q.m.data)).far (b' := b2) (o := 1) (by omega) (.slice q.a q.m.acks.length q.c)).far (b' := b2) (o := 2) (by omega) (.bool q.m.done)
          replace hwd := ((hwd.setCell (p := ⟨b2, 0, none⟩) ln2 (.string q.m.data)).setCell (p := ⟨b2, 1, none⟩) ln2 (.slice q.a q.m.acks.length q.c)).setCell (p := ⟨b2, 2, none⟩) ln2 (.bool q.m.done)
          clear g0 g1 g2 h0 h1 h2
          generalize ((wd.setCell ⟨b2, 0, none⟩ (.string q.m.data)).setCell ⟨b2, 1, none⟩ (.slice q.a q.m.acks.length q.c)).setCell ⟨b2, 2, none⟩ (.bool q.m.done) = wd at *
          refine hK.out _ _ (by first | with_reducible exact dUnhide PP _ hwd | exact dUnhide PP _ (Below.refl _ _) | exact dUnhide PP _ bdr | go_keep) (fun hHeld => ?_)
          clear hK K
          try simp only [Act.put, List.setIfInBounds_toArray, List.set_cons_zero, List.set_cons_succ]
          refine wpAnyH_done (by kernel_rfl) ?_ _
          refine NoPanic.normal ?_
          go_wp2_with fail
          go_meet
          case rel => exact ⟨b1, b2, rfl, rfl, M1.bx, M2.bx, hwd⟩
        · go_simp
          have N2 := BxZ.new (B := 0) wd [.string ⟨#[]⟩, .slice none 0 0, .bool false] 35 (Nat.zero_le _)
          have es : (wd.alloc (.cells #[.string ⟨#[]⟩, .slice none 0 0, .bool false] 35)).heap.size = wd.heap.size + 1 := by simp
          have ln2 : wr.heap.size ≤ wd.heap.size := hwd.size
          try replace N1 := N1.below (ba wd (.cells #[.string ⟨#[]⟩, .slice none 0 0, .bool false] 35))
          try (have hne : b1 ≠ wd.heap.size := by omega)
          replace hwd := belowThen hwd (ba wd (.cells #[.string ⟨#[]⟩, .slice none 0 0, .bool false] 35))
          have lt2 : wd.heap.size < (wd.alloc (.cells #[.string ⟨#[]⟩, .slice none 0 0, .bool false] 35)).heap.size := by omega
          try (replace lt1 : b1 < (wd.alloc (.cells #[.string ⟨#[]⟩, .slice none 0 0, .bool false] 35)).heap.size := by omega)
          clear es
          generalize wd.heap.size = b2 at *
          generalize wd.alloc (.cells #[.string ⟨#[]⟩, .slice none 0 0, .bool false] 35) = wd at *
          refine hK.out _ _ (by first | with_reducible exact dUnhide PP _ hwd | exact dUnhide PP _ (Below.refl _ _) | exact dUnhide PP _ bdr | go_keep) (fun hHeld => ?_)
          clear hK K
          try simp only [Act.put, List.setIfInBounds_toArray, List.set_cons_zero, List.set_cons_succ]
          refine wpAnyH_ready (rs := [10]) (by kernel_rfl) (by simp) ?_
          refine AllReadyH.cons (o := { dst := some 11, op := Op.alloc 35, type := 0, pos := "laws.go:669", after := #[], guard := none }) rfl (fun K hK => ?_) AllReadyH.nil
          go_simp
          have N1 := BxZ.new (B := 0) wd [.string ⟨#[]⟩, .slice none 0 0, .bool false] 35 (Nat.zero_le _)
          have es : (wd.alloc (.cells #[.string ⟨#[]⟩, .slice none 0 0, .bool false] 35)).heap.size = wd.heap.size + 1 := by simp
          have ln1 : wr.heap.size ≤ wd.heap.size := hwd.size
          try replace N2 := N2.below (ba wd (.cells #[.string ⟨#[]⟩, .slice none 0 0, .bool false] 35))
          try (have hne : b2 ≠ wd.heap.size := by omega)
          replace hwd := belowThen hwd (ba wd (.cells #[.string ⟨#[]⟩, .slice none 0 0, .bool false] 35))
          have lt1 : wd.heap.size < (wd.alloc (.cells #[.string ⟨#[]⟩, .slice none 0 0, .bool false] 35)).heap.size := by omega
          try (replace lt2 : b2 < (wd.alloc (.cells #[.string ⟨#[]⟩, .slice none 0 0, .bool false] 35)).heap.size := by omega)
          clear es
          generalize wd.heap.size = b1 at *
          generalize wd.alloc (.cells #[.string ⟨#[]⟩, .slice none 0 0, .bool false] 35) = wd at *
          refine hK.out _ _ (by first | with_reducible exact dUnhide PP _ hwd | exact dUnhide PP _ (Below.refl _ _) | exact dUnhide PP _ bdr | go_keep) (fun hHeld => ?_)
          clear hK K
          try simp only [Act.put, List.setIfInBounds_toArray, List.set_cons_zero, List.set_cons_succ]
          refine wpAnyH_ready (rs := [12]) (by kernel_rfl) (by simp) ?_
          refine AllReadyH.cons (o := { dst := none, op := Op.store 35 (Operand.tmp 11) (Operand.tmp 55), type := 0, pos := "laws.go:669", after := #[{ on := 10, ground := Ground.data }, { on := 4, ground := Ground.data }, { on := 0, ground := Ground.phase }, { on := 1, ground := Ground.phase }, { on := 2, ground := Ground.phase }, { on := 3, ground := Ground.phase }, { on := 4, ground := Ground.phase }, { on := 5, ground := Ground.textOnly Departure.lateStores }, { on := 6, ground := Ground.textOnly Departure.lateStores }, { on := 7, ground := Ground.textOnly Departure.lateStores }, { on := 8, ground := Ground.textOnly Departure.lateStores }, { on := 9, ground := Ground.textOnly Departure.lateStores }, { on := 10, ground := Ground.phase }, { on := 11, ground := Ground.phase }], guard := none }) rfl (fun K hK => ?_) AllReadyH.nil
          obtain ⟨g0, h0⟩ := N1.2 0 _ rfl
          obtain ⟨g1, h1⟩ := N1.2 1 _ rfl
          obtain ⟨g2, h2⟩ := N1.2 2 _ rfl
          go_simp
          have M1 := ((N1.put 0 (.string p.m.data)).put 1 (.slice p.a p.m.acks.length p.c)).put 2 (.bool p.m.done)
          replace N2 := ((N2.far (b' := b1) (o := 0) (by omega) (.string p.m.data)).far (b' := b1) (o := 1) (by omega) (.slice p.a p.m.acks.length p.c)).far (b' := b1) (o := 2) (by omega) (.bool p.m.done)
          replace hwd := ((hwd.setCell (p := ⟨b1, 0, none⟩) ln1 (.string p.m.data)).setCell (p := ⟨b1, 1, none⟩) ln1 (.slice p.a p.m.acks.length p.c)).setCell (p := ⟨b1, 2, none⟩) ln1 (.bool p.m.done)
          clear g0 g1 g2 h0 h1 h2
          generalize ((wd.setCell ⟨b1, 0, none⟩ (.string p.m.data)).setCell ⟨b1, 1, none⟩ (.slice p.a p.m.acks.length p.c)).setCell ⟨b1, 2, none⟩ (.bool p.m.done) = wd at *
          refine hK.out _ _ (by first | with_reducible exact dUnhide PP _ hwd | exact dUnhide PP _ (Below.refl _ _) | exact dUnhide PP _ bdr | go_keep) (fun hHeld => ?_)
          clear hK K
          try simp only [Act.put, List.setIfInBounds_toArray, List.set_cons_zero, List.set_cons_succ]
          refine wpAnyH_ready (rs := [13]) (by kernel_rfl) (by simp) ?_
          refine AllReadyH.cons (o := { dst := none, op := Op.store 35 (Operand.tmp 12) (Operand.tmp 60), type := 0, pos := "laws.go:669", after := #[{ on := 11, ground := Ground.data }, { on := 9, ground := Ground.data }, { on := 12, ground := Ground.chain }, { on := 0, ground := Ground.phase }, { on := 1, ground := Ground.phase }, { on := 2, ground := Ground.phase }, { on := 3, ground := Ground.phase }, { on := 4, ground := Ground.phase }, { on := 5, ground := Ground.phase }, { on := 6, ground := Ground.phase }, { on := 7, ground := Ground.phase }, { on := 8, ground := Ground.phase }, { on := 9, ground := Ground.phase }, { on := 10, ground := Ground.phase }, { on := 11, ground := Ground.phase }, { on := 12, ground := Ground.phase }], guard := none }) rfl (fun K hK => ?_) AllReadyH.nil
          obtain ⟨g0, h0⟩ := N2.2 0 _ rfl
          obtain ⟨g1, h1⟩ := N2.2 1 _ rfl
          obtain ⟨g2, h2⟩ := N2.2 2 _ rfl
          go_simp
          have M2 := ((N2.put 0 (.string q.m.data)).put 1 (.slice q.a q.m.acks.length q.c)).put 2 (.bool q.m.done)
          replace M1 := ((M1.far (b' := b2) (o := 0) (by omega) (.string q.m.data)).far (b' := b2) (o := 1) (by omega) (.slice q.a q.m.acks.length q.c)).far (b' := b2) (o := 2) (by omega) (.bool q.m.done)
          replace hwd := ((hwd.setCell (p := ⟨b2, 0, none⟩) ln2 (.string q.m.data)).setCell (p := ⟨b2, 1, none⟩) ln2 (.slice q.a q.m.acks.length q.c)).setCell (p := ⟨b2, 2, none⟩) ln2 (.bool q.m.done)
          clear g0 g1 g2 h0 h1 h2
          generalize ((wd.setCell ⟨b2, 0, none⟩ (.string q.m.data)).setCell ⟨b2, 1, none⟩ (.slice q.a q.m.acks.length q.c)).setCell ⟨b2, 2, none⟩ (.bool q.m.done) = wd at *
          refine hK.out _ _ (by first | with_reducible exact dUnhide PP _ hwd | exact dUnhide PP _ (Below.refl _ _) | exact dUnhide PP _ bdr | go_keep) (fun hHeld => ?_)
          clear hK K
          try simp only [Act.put, List.setIfInBounds_toArray, List.set_cons_zero, List.set_cons_succ]
          refine wpAnyH_done (by kernel_rfl) ?_ _
          refine NoPanic.normal ?_
          go_wp2_with fail
          go_meet
          case rel => exact ⟨b1, b2, rfl, rfl, M1.bx, M2.bx, hwd⟩
      case rest =>
        obtain ⟨b1, b2, rfl, rfl, M1, M2, bx⟩ := hcut
        generalize wc = wx at *
        have NPx := dUnhide NP wx bx
        have NQx := dUnhide NQ wx bx
        have BX := belowThen hb bx
        have eq := dUnhide EQ
        rw [eq] at M2 NQx
        have s0 := M1 1 _ rfl
        have s1 := M1 2 _ rfl
        have s2 := M2 1 _ rfl
        have s3 := M2 2 _ rfl
        clear NP NQ PP EQ eq M1 M2 y1 z1
        cases hd : p.m.done with
        | true =>
          rw [forgW_done hd] at s2 s3 NQx
          rw [hd] at s1 s3
          have CS := dHide (sameInts_yes _ _ p.m.acks wx NPx NQx)
          clear hd NPx NQx
          go_wp2_with fail
          refine (dUnhide CS).mono ?_
          rintro e wy ⟨rfl, by_⟩
          have t0 := (by_.cell (p := ⟨b1, 2, none⟩) (dCell_lt s1)).trans s1
          have BY := belowThen BX by_
          clear CS s0 s1 s2 s3 by_
          go_wp2
          go_roundw
          case rel =>
            repeat apply Exists.intro
            refine ⟨show Value.int IntKind.i64 ((i : Int) + 1) = Value.int IntKind.i64 ((i + 1 : Nat) : Int) from by go_num, by omega, BY⟩
            all_goals exact undef
          case measure => simp [intOf]; omega
        | false =>
          rw [forgW_open hd] at s2 s3 NQx
          rw [hd] at s1
          simp only at s2 s3 NQx
          have CS := dHide (within_any _ (lessL p.m.acks [x]) x wx NQx)
          clear hd NPx NQx
          go_wp2_with fail
          refine (dUnhide CS).mono ?_
          rintro e wy ⟨⟨bw, rfl, hbw⟩, rfl⟩
          obtain rfl : bw = false := by
            cases bw with
            | false => rfl
            | true => exact absurd (hbw.1 rfl) lessL_not
          clear CS s0 s1 s2 s3 hbw
          go_wp2
          go_roundw
          case rel =>
            repeat apply Exists.intro
            refine ⟨show Value.int IntKind.i64 ((i : Int) + 1) = Value.int IntKind.i64 ((i + 1 : Nat) : Int) from by go_num, by omega, BX⟩
            all_goals exact undef
          case measure => simp [intOf]; omega
    · have PP : Hid (∀ W, Below wa.heap.size wa W → (W.cell? ⟨cb, 0, none⟩ = some (.slice ca ds.length cc) ∧ W.cell? ⟨cb, 1, none⟩ = some (.int .i64 cop)) ∧ (W.cell? ⟨cb + 1, 0, none⟩ = some (.int .i64 m.epoch) ∧ W.cell? ⟨cb + 1, 1, none⟩ = some (.slice a m.words.length c)) ∧ W.cell? ⟨nx, 0, none⟩ = some (.int .i64 n.epoch) ∧ W.cell? ⟨nx, 1, none⟩ = some (.slice a3 m.words.length c3)) := fun W hW => ⟨⟨dUnhide HX W hW 0 _ rfl, dUnhide HX W hW 1 _ rfl⟩, ⟨dUnhide HY W hW 0 _ rfl, dUnhide HY W hW 1 _ rfl⟩, dUnhide HZ W hW 0 _ rfl, dUnhide HZ W hW 1 _ rfl⟩
      have bdr : Below wr.heap.size wr wr.drew := (Below.refl _ _).drew
      have hqq : ((sureL m.words : Int) == (sureL m.words : Int)) = true := by simp
      generalize sureL m.words = sv at *
      clear HM HN HE HRM HRN HNM HNN
      go_wp2_with fail
      refine wp_region_noPanic ?_
      refine wp_region_held_drew (S := fun W => (W.cell? ⟨cb, 0, none⟩ = some (.slice ca ds.length cc) ∧ W.cell? ⟨cb, 1, none⟩ = some (.int .i64 cop)) ∧ (W.cell? ⟨cb + 1, 0, none⟩ = some (.int .i64 m.epoch) ∧ W.cell? ⟨cb + 1, 1, none⟩ = some (.slice a m.words.length c)) ∧ W.cell? ⟨nx, 0, none⟩ = some (.int .i64 n.epoch) ∧ W.cell? ⟨nx, 1, none⟩ = some (.slice a3 m.words.length c3)) (by kernel_rfl) (by first | with_reducible exact dUnhide PP _ hwd | exact dUnhide PP _ hb | exact dUnhide PP _ (belowThen hb bdr) | go_keep) (fun hHeld => ?_)
      have hwd : Below wa.heap.size wa wr.drew := belowThen hb bdr
      generalize wr.drew = wd at *
      refine wpAnyH_take (i := 0) (oi := { dst := some 89, op := Op.load 29 (Operand.tmp 6), type := 29, pos := "laws.go:674", after := #[], guard := none }) (v := ?_) rfl (by kernel_rfl) (by kernel_rfl) (by kernel_rfl) (fun _ _ _ h => h) (Or.inl ⟨by rfl, ?_⟩) (by assumption) ?_
      rotate_left 1
      · intro w hSw
        (try dsimp only at hSw)
        first | (go_simp; done) | (go_simp; with_reducible rfl)
      try simp only [Act.put, List.setIfInBounds_toArray, List.set_cons_zero, List.set_cons_succ]
      refine wpAnyH_take (i := 2) (oi := { dst := some 91, op := Op.load 29 (Operand.tmp 4), type := 29, pos := "laws.go:674", after := #[], guard := none }) (v := ?_) rfl (by kernel_rfl) (by kernel_rfl) (by kernel_rfl) (fun _ _ _ h => h) (Or.inl ⟨by rfl, ?_⟩) (by assumption) ?_
      rotate_left 1
      · intro w hSw
        (try dsimp only at hSw)
        first | (go_simp; done) | (go_simp; with_reducible rfl)
      try simp only [Act.put, List.setIfInBounds_toArray, List.set_cons_zero, List.set_cons_succ]
      refine wpAnyH_ready (rs := [1]) (by kernel_rfl) (by simp) ?_
      refine AllReadyH.cons (o := { dst := some 90, op := Op.call { callee := Callee.value (Operand.func 16), args := #[Operand.tmp 89], argTypes := #[29] }, type := 3, pos := "laws.go:674", after := #[{ on := 0, ground := Ground.data }], guard := none }) rfl (fun K hK => ?_) AllReadyH.nil
      go_simp
      refine (dUnhide CF2 wd hwd).mono ?_
      rintro e wd ⟨rfl, b9⟩
      replace hwd := belowThen hwd b9
      clear b9
      (try go_wp2_with fail)
      refine hK.out _ _ (by first | with_reducible exact dUnhide PP _ hwd | exact dUnhide PP _ hb | exact dUnhide PP _ (belowThen hb bdr) | go_keep) (fun hHeld => ?_)
      clear hK K
      try simp only [Act.put, List.setIfInBounds_toArray, List.set_cons_zero, List.set_cons_succ]
      refine wpAnyH_ready (rs := [3]) (by kernel_rfl) (by simp) ?_
      refine AllReadyH.cons (o := { dst := some 92, op := Op.call { callee := Callee.value (Operand.func 23), args := #[Operand.tmp 91], argTypes := #[29] }, type := 3, pos := "laws.go:674", after := #[{ on := 2, ground := Ground.data }, { on := 1, ground := Ground.chain }], guard := none }) rfl (fun K hK => ?_) AllReadyH.nil
      go_simp
      refine (dUnhide CF1 wd hwd).mono ?_
      rintro e wd ⟨rfl, b9⟩
      replace hwd := belowThen hwd b9
      clear b9
      (try go_wp2_with fail)
      refine hK.out _ _ (by first | with_reducible exact dUnhide PP _ hwd | exact dUnhide PP _ hb | exact dUnhide PP _ (belowThen hb bdr) | go_keep) (fun hHeld => ?_)
      clear hK K
      try simp only [Act.put, List.setIfInBounds_toArray, List.set_cons_zero, List.set_cons_succ]
      refine wpAnyH_take (i := 4) (oi := { dst := some 93, op := Op.binOp BinOp.eql 3 (Operand.tmp 90) (Operand.tmp 92) 3, type := 4, pos := "laws.go:674", after := #[{ on := 1, ground := Ground.data }, { on := 3, ground := Ground.data }], guard := none }) (v := ?_) rfl (by kernel_rfl) (by kernel_rfl) (by kernel_rfl) (fun _ _ _ h => h) (Or.inl ⟨by rfl, ?_⟩) (by assumption) ?_
      rotate_left 1
      · intro w hSw
        (try dsimp only at hSw)
        first | (go_simp; done) | (go_simp; with_reducible rfl)
      try simp only [Act.put, List.setIfInBounds_toArray, List.set_cons_zero, List.set_cons_succ]
      refine wpAnyH_take (i := 5) (oi := { dst := some 94, op := Op.move (Operand.tmp 93), type := 4, pos := "laws.go:674", after := #[{ on := 4, ground := Ground.data }, { on := 3, ground := Ground.chain }], guard := none }) (v := ?_) rfl (by kernel_rfl) (by kernel_rfl) (by kernel_rfl) (fun _ _ _ h => h) (Or.inl ⟨by rfl, ?_⟩) (by assumption) ?_
      rotate_left 1
      · intro w hSw
        (try dsimp only at hSw)
        first | (go_simp; done) | (go_simp; with_reducible rfl)
      try simp only [Act.put, List.setIfInBounds_toArray, List.set_cons_zero, List.set_cons_succ]
      refine wpAnyH_take (i := 6) (oi := { dst := some 95, op := Op.load 26 (Operand.tmp 3), type := 26, pos := "laws.go:674", after := #[{ on := 5, ground := Ground.guard }], guard := some (5, true) }) (v := ?_) rfl (by kernel_rfl) (by kernel_rfl) (by kernel_rfl) (fun _ _ _ h => h) (Or.inl ⟨by rfl, ?_⟩) (by assumption) ?_
      rotate_left 1
      · intro w hSw
        (try dsimp only at hSw)
        first | (go_simp; done) | (go_simp; with_reducible rfl)
      try simp only [Act.put, List.setIfInBounds_toArray, List.set_cons_zero, List.set_cons_succ]
      refine wpAnyH_take (i := 7) (oi := { dst := some 96, op := Op.load 29 (Operand.tmp 6), type := 29, pos := "laws.go:674", after := #[{ on := 5, ground := Ground.guard }], guard := some (5, true) }) (v := ?_) rfl (by kernel_rfl) (by kernel_rfl) (by kernel_rfl) (fun _ _ _ h => h) (Or.inl ⟨by rfl, ?_⟩) (by assumption) ?_
      rotate_left 1
      · intro w hSw
        (try dsimp only at hSw)
        first | (go_simp; done) | (go_simp; with_reducible rfl)
      try simp only [Act.put, List.setIfInBounds_toArray, List.set_cons_zero, List.set_cons_succ]
      refine wpAnyH_ready (rs := [8]) (by kernel_rfl) (by simp) ?_
      refine AllReadyH.cons (o := { dst := some 97, op := Op.call { callee := Callee.value (Operand.func 17), args := #[Operand.tmp 95, Operand.tmp 96], argTypes := #[26, 29] }, type := 4, pos := "laws.go:674", after := #[{ on := 6, ground := Ground.data }, { on := 7, ground := Ground.data }, { on := 5, ground := Ground.chain }, { on := 5, ground := Ground.guard }], guard := some (5, true) }) rfl (fun K hK => ?_) AllReadyH.nil
      go_simp
      refine (dUnhide CO6 wd hwd).mono ?_
      rintro e wd ⟨rfl, b9⟩
      replace hwd := belowThen hwd b9
      clear b9
      (try go_wp2_with fail)
      refine hK.out _ _ (by first | with_reducible exact dUnhide PP _ hwd | exact dUnhide PP _ hb | exact dUnhide PP _ (belowThen hb bdr) | go_keep) (fun hHeld => ?_)
      clear hK K
      try simp only [Act.put, List.setIfInBounds_toArray, List.set_cons_zero, List.set_cons_succ]
      refine wpAnyH_take (i := 9) (oi := { dst := some 98, op := Op.pick (Operand.tmp 94) (Operand.tmp 97) (Operand.const (Value.bool false)), type := 4, pos := "laws.go:674", after := #[{ on := 5, ground := Ground.data }, { on := 8, ground := Ground.data }], guard := none }) (v := ?_) rfl (by kernel_rfl) (by kernel_rfl) (by kernel_rfl) (fun _ _ _ h => h) (Or.inl ⟨by rfl, ?_⟩) (by assumption) ?_
      rotate_left 1
      · intro w hSw
        (try dsimp only at hSw)
        first | (go_simp; done) | (go_simp; with_reducible rfl)
      try simp only [Act.put, List.setIfInBounds_toArray, List.set_cons_zero, List.set_cons_succ]
      refine wpAnyH_take (i := 10) (oi := { dst := some 2, op := Op.assign (Operand.tmp 98), type := 4, pos := "laws.go:674", after := #[{ on := 9, ground := Ground.data }, { on := 8, ground := Ground.chain }, { on := 0, ground := Ground.phase }, { on := 1, ground := Ground.phase }, { on := 2, ground := Ground.phase }, { on := 3, ground := Ground.phase }, { on := 4, ground := Ground.phase }, { on := 5, ground := Ground.phase }, { on := 6, ground := Ground.phase }, { on := 7, ground := Ground.phase }, { on := 8, ground := Ground.phase }, { on := 9, ground := Ground.phase }], guard := none }) (v := ?_) rfl (by kernel_rfl) (by kernel_rfl) (by kernel_rfl) (fun _ _ _ h => h) (Or.inl ⟨by rfl, ?_⟩) (by assumption) ?_
      rotate_left 1
      · intro w hSw
        (try dsimp only at hSw)
        first | (go_simp; done) | (go_simp; with_reducible rfl)
      try simp only [Act.put, List.setIfInBounds_toArray, List.set_cons_zero, List.set_cons_succ]
      refine wpAnyH_done (by kernel_rfl) ?_ _
      refine NoPanic.normal ?_
      go_wp2_with fail
      go_ret
      exact ⟨rfl, belowThen B6 hwd⟩
end Go.Proofs.Ytfipenjojgflmaa
