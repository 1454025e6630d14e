/- The walk of the law FnAcked (printed by tools/mkl8k.py). -/
import Derived.Test.YtjbfpmackocgnaaGx1
import Derived.Test.YtjbfpmackocgnaaGx2
import Derived.Test.YtjbfpmackocgnaaWrW
import Derived.Test.YtjbfpmackocgnaaWithN
import Derived.Test.YtjbfpmackocgnaaBigB
import Derived.Test.YtjbfpmackocgnaaGaA
import Derived.Deep.DeepCutAuto
namespace Go.Proofs.Ytjbfpmackocgnaa
open Go.ChangeShapes Go.WideShapes Go.ChangeAt Go.RowKit
set_option linter.unusedVariables false
set_option linter.unusedSimpArgs false

set_option maxHeartbeats 16000000 in
set_option maxRecDepth 100000 in
theorem walkFnAcked (a0 : Option Addr) (len0 cap0 : Nat) (z0 : List Int) (w : World) (w0 : IsRow .u8 w a0 len0 cap0 z0) :
    Calls Try.prog 4 #[.slice a0 len0 cap0] w fun e w' => e = .returned (.bool true) ∧ Below w.heap.size w w' := by
  have hr := row8_of w0
  have hlen := hr.1
  clear w0
  by_cases hbig : 1048576 < len0
  · have CB := dHide (big_yes a0 len0 cap0 hbig hlen)
    go_enter Try.func4, Try.ntmps4
    go_wp2_with fail
    refine (dUnhide CB _).mono ?_
    rintro e w1 ⟨rfl, rfl⟩
    go_wp2
    go_ret
    exact ⟨rfl, Below.refl _ _⟩
  have CB := dHide (big_no a0 len0 cap0 hbig)
  have CD := dHide (drawWriterAck_any a0 len0 cap0 w hr)
  have ba : ∀ (w : World) o, Below w.heap.size w (w.alloc o) := fun w o => (Below.refl _ _).alloc (Nat.le_refl _) o
  clear hbig hr
  go_enter Try.func4, Try.ntmps4
  go_wp2_with fail
  refine (dUnhide CB _).mono ?_
  rintro e w1 ⟨rfl, rfl⟩
  clear CB
  go_wp2_with fail
  refine (dUnhide CD).mono ?_
  rintro e w1 ⟨⟨cv, rv, ds, cop, m, of, x, rfl, ⟨⟨ca, cc, rfl, N1⟩, hdl, hdd, hcop, ⟨a, c, rfl⟩, R1, hf⟩, oko, okx⟩, B1⟩
  clear CD
  have okc : okConfig (ds, cop) := ⟨fun d hd => by have := hdd d hd; omega, by show -9223372036854775808 ≤ cop; omega, by show cop ≤ 9223372036854775807; omega⟩
  have hsc : sizConfig (ds, cop) ≤ 1048576 := by show ds.length ≤ 1048576; omega
  have bA := ba w1 (.cells #[.slice ca ds.length cc, .int .i64 cop] 26)
  have bB := ba (w1.alloc (.cells #[.slice ca ds.length cc, .int .i64 cop] 26)) (.cells #[.int .i64 m.epoch, .slice a m.words.length c] 29)
  have bb := belowThen bA bB
  have X2 := (Bx.new w1 [.slice ca ds.length cc, .int .i64 cop] 26).below bB
  have Y2 := Bx.new (w1.alloc (.cells #[.slice ca ds.length cc, .int .i64 cop] 26)) [.int .i64 m.epoch, .slice a m.words.length c] 29
  rw [show (w1.alloc (.cells #[.slice ca ds.length cc, .int .i64 cop] 26)).heap.size = w1.heap.size + 1 from by simp] at Y2
  have N2 := N1.below bb
  have R2 := R1.below bb
  have B2 := belowThen B1 bb
  clear bA bB N1 R1 B1 bb
  go_wp2_with fail
  generalize (w1.alloc (.cells #[.slice ca ds.length cc, .int .i64 cop] 26)).alloc (.cells #[.int .i64 m.epoch, .slice a m.words.length c] 29) = w5 at *
  generalize w1.heap.size = cb at *
  have C1 := implAck_any _ _ (ds, cop) m of x w5 ⟨_, rfl, N2⟩ R2 okc hf.ok okx hsc (hf.siz (by omega))
  have C2 := fun W (hb : Below w5.heap.size w5 W) => specAck_any _ _ (ds, cop) m of x W ⟨_, rfl, N2.below hb⟩ (R2.below hb) (hf.siz (by omega)) oko (by simp only; omega)
  have CO := fun W (hb : Below w5.heap.size w5 W) v' m' (hv : RdWriter v' m' W) ok hs => implWriterOk_any (.agg #[.slice ca ds.length cc, .int .i64 cop]) v' (ds, cop) m' W ⟨_, rfl, N2.below hb⟩ hv okc ok hsc hs
  have CHo := dHide fun W (hb : Below w5.heap.size w5 W) v' (xs : List Int) (hx : Ns W v' xs) (ha : allInt xs) (hl : xs.length ≤ 1048576) => implHolds_any (.slice ca ds.length cc) v' ds xs cop W (N2.below hb) hx okc.1 ha (by omega) hl okc.2.1 okc.2.2
  have TF : Hid ((ackM ds cop m of x).2 = false → ((ackM ds cop m of x).1.words.length = m.words.length ∨ (ackM ds cop m of x).1.words.length = 0)) := fun h => by
    by_cases hp : wrP ds cop m
    · by_cases hq : ackP ds m.words of x
      · rw [ackM_yes hp hq] at h; cases h
      · rw [ackM_no hp hq]; exact .inl rfl
    · rw [ackM_bad hp]; exact .inr rfl
  have TT : Hid ((ackM ds cop m of x).2 = true → wrP ds cop m ∧ ackP ds m.words of x ∧ (ackM ds cop m of x).1 = ackL ds cop m of x) := fun h => by
    by_cases hp : wrP ds cop m
    · by_cases hq : ackP ds m.words of x
      · rw [ackM_yes hp hq]; exact ⟨hp, hq, rfl⟩
      · rw [ackM_no hp hq] at h; cases h
    · rw [ackM_bad hp] at h; cases h
  simp only at C1 C2 CO
  generalize ackM ds cop m of x = T at *
  obtain ⟨n, nb⟩ := T
  simp only at *
  replace C1 := dHide C1
  replace C2 := dHide C2
  replace CO := dHide CO
  refine (dUnhide C1).mono ?_
  rintro e w6 ⟨⟨u3, rfl, O3⟩, b3⟩
  obtain ⟨a3, c3, rfl⟩ := O3.slice
  have bC := ba w6 (.cells #[.int .i64 n.epoch, .slice a3 n.words.length c3] 29)
  have b4 := belowThen b3 bC
  have X4 := X2.below b4
  have Y4 := Y2.below b4
  have Z4 := Bx.new w6 [.int .i64 n.epoch, .slice a3 n.words.length c3] 29
  have R4 := RdK.below O3.rd bC
  have B4 := belowThen B2 b4
  have C24 := dHide (dUnhide C2 _ b4)
  have x0 := X4 0 _ rfl
  have x1 := X4 1 _ rfl
  have y0 := Y4 0 _ rfl
  have y1 := Y4 1 _ rfl
  clear C1 C2 O3 X2 Y2 B2 b3 bC
  go_wp2_with fail
  generalize hnb : w6.heap.size = nx at *
  generalize w6.alloc (.cells #[.int .i64 n.epoch, .slice a3 n.words.length c3] 29) = w7 at *
  refine (dUnhide C24).mono ?_
  rintro e w8 ⟨⟨u5, rfl, O5⟩, b5⟩
  obtain ⟨a5, c5, rfl⟩ := O5.slice
  have bD := ba w8 (.cells #[.int .i64 n.epoch, .slice a5 n.words.length c5] 29)
  have b6 := belowThen b5 bD
  have b46 := belowThen b4 b6
  have X6 := X4.below b6
  have Y6 := Y4.below b6
  have Z6 := Z4.below b6
  have R6 := RdK.below R4 b6
  have B6 := belowThen B4 b6
  have RM := R2.below b46
  clear C24 O5 X4 Y4 Z4 R4 B4 b5 bD x0 x1 y0 y1 b6 b4 R2 N2
  have y1 := Y6 1 _ rfl
  have z1' := Z6 1 _ rfl
  cases nb
  · have hT := dUnhide TF rfl
    clear TF TT CO RM R6
    generalize n.words.length = nl at *
    have hr : (((nl : Int) == (m.words.length : Int)) = true) ∨ (((nl : Int) == (m.words.length : Int)) = false ∧ ((nl : Int) == 0) = true) := by
      by_cases e : nl = m.words.length
      · left; simp [e]
      · right; exact ⟨by simp; omega, by simp; omega⟩
    clear hT
    rcases hr with h | ⟨h, h'⟩
    · go_wp2
      go_ret
      exact ⟨rfl, B6⟩
    · go_wp2
      go_ret
      exact ⟨rfl, B6⟩
  obtain ⟨hw0, hpp, hn⟩ := dUnhide TT rfl
  clear TF TT
  have hel : m.words.length ≤ 60 := hf.1
  have hfn : okWriter n ∧ sizWriter n ≤ 1048576 := by rw [hn]; exact ack_fit hf okx hw0 hpp
  have hwr' : wrP ds cop n := by rw [hn]; exact ack_wr hw0 hpp
  obtain ⟨⟨hp1, hp2⟩, hp3, hp4⟩ := hpp
  obtain ⟨j, hj⟩ : ∃ j : Nat, of = (j : Int) + 1 := ⟨of.toNat - 1, by omega⟩
  have hjl : j < m.words.length := by omega
  have ej : of.toNat - 1 = j := by omega
  have hnl : n.words.length = m.words.length := by rw [hn]; simp [ackL]
  have hne : n.epoch = m.epoch := by rw [hn]; rfl
  have eat : atW m.words j = m.words[j] := by unfold atW; rw [getD_lt _ hjl]
  rw [ej, eat] at hp4
  have HE : Hid (∀ i (hi : i < m.words.length) (hi' : i < n.words.length), m.words[i].done = true → n.words[i].done = true) := fun i hi hi' hd => by
    subst hn
    have e : i ≠ j := fun e => by subst e; rw [hp4] at hd; cases hd
    simp only [ackL, ej]
    rw [List.getElem_set_ne (Ne.symm e)]
    exact hd
  have HL : Hid (∀ (hi' : j < n.words.length), n.words[j] = ackW ds cop x m.words[j]) := fun hi' => by
    subst hn
    simp only [ackL, ej, List.getElem_set_self, eat]
  have hsu : sureL m.words ≤ sureL n.words := sure_mono _ _ hnl.symm (fun i h h' => dUnhide HE i h h')
  have HP : Hid (∃ (pl : List Int) (D : Bool), (∀ (hi' : j < n.words.length), n.words[j].acks = pl ∧ n.words[j].done = D) ∧ x ∈ pl ∧ allInt pl ∧ pl.length ≤ 1048576 ∧ (D = true ↔ holdsP ds cop pl)) := by
    refine ⟨putL x m.words[j].acks, (ackW ds cop x m.words[j]).done, fun hi' => by rw [dUnhide HL hi']; exact ⟨rfl, rfl⟩, mem_putL.2 (.inl rfl), ?_, ?_, ?_⟩
    · intro z hz
      rcases mem_putL.1 hz with rfl | hz
      · exact okx
      · exact (hf.ok.1 _ (List.getElem_mem hjl)).1 z hz
    · have h1 := putL_len x m.words[j].acks
      have h2 := (hf.2.1 _ (List.getElem_mem hjl)).2.1
      omega
    · unfold ackW
      simp only
      exact @decide_eq_true_iff _ (Classical.propDecidable _)
  have CF1 := dHide fun W (hb : Below (w8.alloc (.cells #[.int .i64 n.epoch, .slice a5 n.words.length c5] 29)).heap.size (w8.alloc (.cells #[.int .i64 n.epoch, .slice a5 n.words.length c5] 29)) W) => specSure_any _ m W (RM.below hb)
  have CF2 := dHide fun W (hb : Below (w8.alloc (.cells #[.int .i64 n.epoch, .slice a5 n.words.length c5] 29)).heap.size (w8.alloc (.cells #[.int .i64 n.epoch, .slice a5 n.words.length c5] 29)) W) => implSure_any (.agg #[.int .i64 n.epoch, .slice a3 n.words.length c3]) n W (by omega) ⟨_, rfl, RdK.below R6 hb⟩
  have CO6 := dHide fun W (hb : Below (w8.alloc (.cells #[.int .i64 n.epoch, .slice a5 n.words.length c5] 29)).heap.size (w8.alloc (.cells #[.int .i64 n.epoch, .slice a5 n.words.length c5] 29)) W) => retB_yes (dUnhide CO W (belowThen b46 hb) (.agg #[.int .i64 n.epoch, .slice a3 n.words.length c3]) n ⟨_, rfl, RdK.below R6 hb⟩ hfn.1 hfn.2) hwr'
  have CH6 := dHide fun W (hb : Below (w8.alloc (.cells #[.int .i64 n.epoch, .slice a5 n.words.length c5] 29)).heap.size (w8.alloc (.cells #[.int .i64 n.epoch, .slice a5 n.words.length c5] 29)) W) v' xs hx ha hl => dUnhide CHo W (belowThen b46 hb) v' xs hx ha hl
  have HNL := dHide hnl
  have HNE := dHide hne
  have HSU := dHide hsu
  subst hj
  clear CO hn hwr' hfn hnl hsu hne hw0 hp1 hp2 hp3 hp4 ej eat HL CHo
  go_upto_region 10 with fail
  generalize w8.alloc (.cells #[.int .i64 n.epoch, .slice a5 n.words.length c5] 29) = wa at *
  have hnl := dUnhide HNL
  have HX := dHide fun W (hb : Below wa.heap.size wa W) => X6.below hb
  have HY := dHide fun W (hb : Below wa.heap.size wa W) => Y6.below hb
  have HZ := dHide fun W (hb : Below wa.heap.size wa W) => Z6.below hb
  obtain ⟨sm, em, rm, hmm, hrm, hnm⟩ := RM
  cases em
  obtain ⟨rn, hmn, hrn, hnn⟩ := R6
  have HRM := dHide fun W (hb : Below wa.heap.size wa W) => hrm.below hb
  have HRN := dHide fun W (hb : Below wa.heap.size wa W) => hrn.below hb
  have HNN := dHide fun W (hb : Below wa.heap.size wa W) p (hp : p ∈ rn) => (hnn p hp).below hb
  have lm : rm.length = m.words.length := by rw [← hmm, List.length_map]
  have ln : rn.length = m.words.length := by rw [← hnl, ← hmn, List.length_map]
  have HM : Hid (∀ i (h : i < rm.length) (h' : i < m.words.length), rm[i].m = m.words[i]) := fun i h h' => by simp only [← hmm, List.getElem_map]
  have HN : Hid (∀ i (h : i < rn.length) (h' : i < n.words.length), rn[i].m = n.words[i]) := fun i h h' => by simp only [← hmn, List.getElem_map]
  clear X6 Y6 Z6 hrm hrn hmm hmn hnm hnn y1 z1' b46
  have hne := dUnhide HNE
  rw [hnl] at HZ HRN CF2 CO6
  rw [hne] at HZ CF2 CO6
  generalize sureL n.words = sn at *
  generalize sureL m.words = sl at *
  have hsr := dUnhide HSU
  obtain ⟨b', off', eo, hce'⟩ := (dUnhide HRN wa (Below.refl _ _)).word (show j < rn.length by omega)
  subst eo
  obtain ⟨pl, D, hpd, hxp, hal, hll, hDh⟩ := dUnhide HP
  have hjn : j < n.words.length := by have := dUnhide HNL; omega
  obtain ⟨hp1, hp2⟩ := hpd hjn
  have eqn := dUnhide HN j (by omega) hjn
  have npl := dUnhide HNN wa (Below.refl _ _) _ (List.getElem_mem (show j < rn.length by omega))
  unfold Sv at npl
  have hq1 := hce' j (by omega)
  unfold WdAt at hq1
  rw [eqn] at hq1 npl
  rw [hp1] at npl hq1
  rw [hp2] at hq1
  generalize n.words[j].data = xd at *
  generalize rn[j].a = ta at *
  generalize rn[j].c = tc at *
  obtain ⟨j0, j1, j2⟩ := hq1
  have t3 : IntKind.i64.wrap ((j : Int) + 1 - 1) = (j : Int) := by rw [IntKind.wrap_i64]; omega
  have t4 : (j : Int) < (m.words.length : Int) := by omega
  have t5 : (0 : Int) ≤ (j : Int) := by omega
  have t8 : (j : Int) < (n.words.length : Int) := by omega
  have t7 : wrap64 (j : Int) = (j : Int) := by unfold wrap64; omega
  have bW := ba wa (.cells #[.string xd, .slice ta pl.length tc, .bool D] 35)
  have V9 := Bx.new wa [.string xd, .slice ta pl.length tc, .bool D] 35
  have z1 := dUnhide HZ wa (Below.refl _ _) 1 _ rfl
  have NPL := dHide fun W (hb : Below (wa.alloc (.cells #[.string xd, .slice ta pl.length tc, .bool D] 35)).heap.size (wa.alloc (.cells #[.string xd, .slice ta pl.length tc, .bool D] 35)) W) => npl.below (belowThen bW hb)
  clear hnl hne HNE HSU HP eqn hce' hp1 hp2 hpd npl HNN
  go_wp2
  generalize wa.alloc (.cells #[.string xd, .slice ta pl.length tc, .bool D] 35) = wx at *
  have BX := belowThen B6 bW
  clear j0 j1 j2 z1 t3 t7 t8
  go_loopw [12] (fun q wr => ∃ i : Nat, q = .int .i64 (i : Int) ∧ i ≤ m.words.length ∧ Below wx.heap.size wx wr) (fun q _ => m.words.length - (intOf q).toNat)
  case atStart => exact ⟨0, rfl, Nat.zero_le _, Below.refl _ _⟩
  case round =>
    obtain ⟨i, rfl, hi, hb⟩ := hrel
    have hbx := belowThen bW hb
    have y1 := dUnhide HY wr hbx 1 _ rfl
    have z1 := dUnhide HZ wr hbx 1 _ rfl
    by_cases hlt : (i : Int) < (m.words.length : Int)
    · have hil : i < m.words.length := by omega
      obtain ⟨b, off, rfl, hce⟩ := (dUnhide HRM wr hbx).word (show i < rm.length by omega)
      have hp1 := hce i (by omega)
      have hce2 := (dUnhide HRN wr hbx).el (show i < rn.length by omega)
      obtain ⟨b2, off2, e2, hce3⟩ := hce2
      cases e2
      have hq2 := hce3 i (by omega) 2 _ rfl
      have ep := dUnhide HM i (by omega) hil
      have hin : i < n.words.length := by have := dUnhide HNL; omega
      have eq := dUnhide HN i (by omega) hin
      have hdd2 := dUnhide HE i hil hin
      unfold WdAt at hp1
      rw [ep] at hp1
      rw [eq] at hq2
      obtain ⟨-, -, k2⟩ := hp1
      generalize m.words[i].done = d1 at *
      generalize n.words[i].done = d2 at *
      clear hce hce3 ep eq HM HN HE HRM HRN CF1 CF2 CO6 CH6 NPL hin
      cases d1
      · clear hdd2
        go_wp2
        go_roundw
        case rel => exact ⟨i + 1, by go_num, by omega, hb⟩
        case measure => simp [intOf]; omega
      · obtain rfl := hdd2 rfl
        go_wp2
        go_roundw
        case rel => exact ⟨i + 1, by go_num, by omega, hb⟩
        case measure => simp [intOf]; omega
    · have CH7 : Hid (∀ W, Below wx.heap.size wx W → Calls Try.prog 23 #[.agg #[.slice ca ds.length cc, .int .i64 cop], .slice ta pl.length tc] W fun e w' => e = .returned (.bool D) ∧ Below W.heap.size W w') := fun W hW => (dUnhide CH6 W (belowThen bW hW) (.slice ta pl.length tc) pl (dUnhide NPL W hW) hal hll).mono fun e w' ⟨⟨b9, h9, h10⟩, h11⟩ => ⟨by
        rw [h9]
        have : b9 = D := by
          cases D with
          | true => exact h10.2 (hDh.1 rfl)
          | false =>
            cases b9 with
            | false => rfl
            | true => exact absurd (hDh.2 (h10.1 rfl)) (by simp)
        rw [this], h11⟩
      have CW7 : Hid (∀ W, Below wx.heap.size wx W → Calls Try.prog 22 #[.slice ta pl.length tc, .int .i64 x] W fun e w' => e = .returned (.bool true) ∧ Below W.heap.size W w') := fun W hW => (within_any (.slice ta pl.length tc) pl x W (dUnhide NPL W hW)).mono fun e w' ⟨h1, h2⟩ => ⟨h1.of_yes hxp, by subst h2; exact Below.refl _ _⟩
      replace CF1 := dHide fun W (hW : Below wx.heap.size wx W) => dUnhide CF1 W (belowThen bW hW)
      replace CF2 := dHide fun W (hW : Below wx.heap.size wx W) => dUnhide CF2 W (belowThen bW hW)
      replace CO6 := dHide fun W (hW : Below wx.heap.size wx W) => dUnhide CO6 W (belowThen bW hW)
      have bdr : Below wr.heap.size wr wr.drew := (Below.refl _ _).drew
      have PP : Hid (∀ W, Below wx.heap.size wx W → (W.cell? ⟨cb, 0, none⟩ = some (.slice ca ds.length cc) ∧ W.cell? ⟨cb, 1, none⟩ = some (.int .i64 cop)) ∧ (W.cell? ⟨cb + 1, 0, none⟩ = some (.int .i64 m.epoch) ∧ W.cell? ⟨cb + 1, 1, none⟩ = some (.slice a m.words.length c)) ∧ (W.cell? ⟨nx, 0, none⟩ = some (.int .i64 m.epoch) ∧ W.cell? ⟨nx, 1, none⟩ = some (.slice (some ⟨b', off', none⟩) m.words.length c3)) ∧ W.cell? ⟨wa.heap.size, 1, none⟩ = some (.slice ta pl.length tc) ∧ W.cell? ⟨wa.heap.size, 2, none⟩ = some (.bool D)) := fun W hW => ⟨⟨dUnhide HX W (belowThen bW hW) 0 _ rfl, dUnhide HX W (belowThen bW hW) 1 _ rfl⟩, ⟨dUnhide HY W (belowThen bW hW) 0 _ rfl, dUnhide HY W (belowThen bW hW) 1 _ rfl⟩, ⟨dUnhide HZ W (belowThen bW hW) 0 _ rfl, dUnhide HZ W (belowThen bW hW) 1 _ rfl⟩, V9.below hW 1 _ rfl, V9.below hW 2 _ rfl⟩
      have hq2 : ((sl : Int) ≤ (sn : Int)) := by omega
      have hq3 : decide ((sl : Int) ≤ (sn : Int)) = true := by simpa using hq2
      have hq4 : (D == D) = true := by simp
      clear HM HN HE HRM HRN NPL CH6 hDh hxp
      go_wp2_with fail
      refine wp_region_noPanic ?_
      refine wp_region_held_drew (S := fun W => (W.cell? ⟨cb, 0, none⟩ = some (.slice ca ds.length cc) ∧ W.cell? ⟨cb, 1, none⟩ = some (.int .i64 cop)) ∧ (W.cell? ⟨cb + 1, 0, none⟩ = some (.int .i64 m.epoch) ∧ W.cell? ⟨cb + 1, 1, none⟩ = some (.slice a m.words.length c)) ∧ (W.cell? ⟨nx, 0, none⟩ = some (.int .i64 m.epoch) ∧ W.cell? ⟨nx, 1, none⟩ = some (.slice (some ⟨b', off', none⟩) m.words.length c3)) ∧ W.cell? ⟨wa.heap.size, 1, none⟩ = some (.slice ta pl.length tc) ∧ W.cell? ⟨wa.heap.size, 2, none⟩ = some (.bool D)) (by kernel_rfl) (by first | with_reducible exact dUnhide PP _ hwd | exact dUnhide PP _ hb | exact dUnhide PP _ (belowThen hb bdr) | go_keep) (fun hHeld => ?_)
      have hwd : Below wx.heap.size wx wr.drew := belowThen hb bdr
      generalize wr.drew = wd at *
      refine wpAnyH_take (i := 0) (oi := { dst := some 84, op := Op.fieldAddr 35 (Operand.tmp 11) 1, type := 0, pos := "laws.go:651", after := #[], guard := none }) (v := ?_) rfl (by kernel_rfl) (by kernel_rfl) (by kernel_rfl) (fun _ _ _ h => h) (Or.inl ⟨by rfl, ?_⟩) (by assumption) ?_
      rotate_left 1
      · intro w hSw
        (try dsimp only at hSw)
        first | (go_simp; done) | (go_simp; with_reducible rfl)
      try simp only [Act.put, List.setIfInBounds_toArray, List.set_cons_zero, List.set_cons_succ]
      refine wpAnyH_take (i := 1) (oi := { dst := some 85, op := Op.load 24 (Operand.tmp 84), type := 24, pos := "laws.go:651", after := #[{ on := 0, ground := Ground.data }], guard := none }) (v := ?_) rfl (by kernel_rfl) (by kernel_rfl) (by kernel_rfl) (fun _ _ _ h => h) (Or.inl ⟨by rfl, ?_⟩) (by assumption) ?_
      rotate_left 1
      · intro w hSw
        (try dsimp only at hSw)
        first | (go_simp; done) | (go_simp; with_reducible rfl)
      try simp only [Act.put, List.setIfInBounds_toArray, List.set_cons_zero, List.set_cons_succ]
      refine wpAnyH_take (i := 2) (oi := { dst := some 86, op := Op.move (Operand.tmp 6), type := 3, pos := "laws.go:651", after := #[], guard := none }) (v := ?_) rfl (by kernel_rfl) (by kernel_rfl) (by kernel_rfl) (fun _ _ _ h => h) (Or.inl ⟨by rfl, ?_⟩) (by assumption) ?_
      rotate_left 1
      · intro w hSw
        (try dsimp only at hSw)
        first | (go_simp; done) | (go_simp; with_reducible rfl)
      try simp only [Act.put, List.setIfInBounds_toArray, List.set_cons_zero, List.set_cons_succ]
      refine wpAnyH_ready (rs := [3]) (by kernel_rfl) (by simp) ?_
      refine AllReadyH.cons (o := { dst := some 87, op := Op.call { callee := Callee.value (Operand.func 22), args := #[Operand.tmp 85, Operand.tmp 86], argTypes := #[24, 3] }, type := 4, pos := "laws.go:651", after := #[{ on := 1, ground := Ground.data }, { on := 2, ground := Ground.data }], guard := none }) rfl (fun K hK => ?_) AllReadyH.nil
      go_simp
      refine (dUnhide CW7 wd hwd).mono ?_
      rintro e wd ⟨rfl, b9⟩
      replace hwd := belowThen hwd b9
      clear b9
      (try go_wp2_with fail)
      refine hK.out _ _ (by first | with_reducible exact dUnhide PP _ hwd | exact dUnhide PP _ hb | exact dUnhide PP _ (belowThen hb bdr) | go_keep) (fun hHeld => ?_)
      clear hK K
      try simp only [Act.put, List.setIfInBounds_toArray, List.set_cons_zero, List.set_cons_succ]
      refine wpAnyH_take (i := 4) (oi := { dst := some 88, op := Op.move (Operand.tmp 87), type := 4, pos := "laws.go:651", after := #[{ on := 3, ground := Ground.data }, { on := 3, ground := Ground.chain }], guard := none }) (v := ?_) rfl (by kernel_rfl) (by kernel_rfl) (by kernel_rfl) (fun _ _ _ h => h) (Or.inl ⟨by rfl, ?_⟩) (by assumption) ?_
      rotate_left 1
      · intro w hSw
        (try dsimp only at hSw)
        first | (go_simp; done) | (go_simp; with_reducible rfl)
      try simp only [Act.put, List.setIfInBounds_toArray, List.set_cons_zero, List.set_cons_succ]
      refine wpAnyH_take (i := 5) (oi := { dst := some 89, op := Op.fieldAddr 35 (Operand.tmp 11) 2, type := 0, pos := "laws.go:651", after := #[{ on := 4, ground := Ground.guard }], guard := some (4, true) }) (v := ?_) rfl (by kernel_rfl) (by kernel_rfl) (by kernel_rfl) (fun _ _ _ h => h) (Or.inl ⟨by rfl, ?_⟩) (by assumption) ?_
      rotate_left 1
      · intro w hSw
        (try dsimp only at hSw)
        first | (go_simp; done) | (go_simp; with_reducible rfl)
      try simp only [Act.put, List.setIfInBounds_toArray, List.set_cons_zero, List.set_cons_succ]
      refine wpAnyH_take (i := 6) (oi := { dst := some 90, op := Op.load 4 (Operand.tmp 89), type := 4, pos := "laws.go:651", after := #[{ on := 5, ground := Ground.data }, { on := 4, ground := Ground.guard }], guard := some (4, true) }) (v := ?_) rfl (by kernel_rfl) (by kernel_rfl) (by kernel_rfl) (fun _ _ _ h => h) (Or.inl ⟨by rfl, ?_⟩) (by assumption) ?_
      rotate_left 1
      · intro w hSw
        (try dsimp only at hSw)
        first | (go_simp; done) | (go_simp; with_reducible rfl)
      try simp only [Act.put, List.setIfInBounds_toArray, List.set_cons_zero, List.set_cons_succ]
      refine wpAnyH_take (i := 7) (oi := { dst := some 91, op := Op.load 26 (Operand.tmp 3), type := 26, pos := "laws.go:651", after := #[{ on := 4, ground := Ground.guard }], guard := some (4, true) }) (v := ?_) rfl (by kernel_rfl) (by kernel_rfl) (by kernel_rfl) (fun _ _ _ h => h) (Or.inl ⟨by rfl, ?_⟩) (by assumption) ?_
      rotate_left 1
      · intro w hSw
        (try dsimp only at hSw)
        first | (go_simp; done) | (go_simp; with_reducible rfl)
      try simp only [Act.put, List.setIfInBounds_toArray, List.set_cons_zero, List.set_cons_succ]
      refine wpAnyH_take (i := 8) (oi := { dst := some 92, op := Op.fieldAddr 35 (Operand.tmp 11) 1, type := 0, pos := "laws.go:651", after := #[{ on := 4, ground := Ground.guard }], guard := some (4, true) }) (v := ?_) rfl (by kernel_rfl) (by kernel_rfl) (by kernel_rfl) (fun _ _ _ h => h) (Or.inl ⟨by rfl, ?_⟩) (by assumption) ?_
      rotate_left 1
      · intro w hSw
        (try dsimp only at hSw)
        first | (go_simp; done) | (go_simp; with_reducible rfl)
      try simp only [Act.put, List.setIfInBounds_toArray, List.set_cons_zero, List.set_cons_succ]
      refine wpAnyH_take (i := 9) (oi := { dst := some 93, op := Op.load 24 (Operand.tmp 92), type := 24, pos := "laws.go:651", after := #[{ on := 8, ground := Ground.data }, { on := 4, ground := Ground.guard }], guard := some (4, true) }) (v := ?_) rfl (by kernel_rfl) (by kernel_rfl) (by kernel_rfl) (fun _ _ _ h => h) (Or.inl ⟨by rfl, ?_⟩) (by assumption) ?_
      rotate_left 1
      · intro w hSw
        (try dsimp only at hSw)
        first | (go_simp; done) | (go_simp; with_reducible rfl)
      try simp only [Act.put, List.setIfInBounds_toArray, List.set_cons_zero, List.set_cons_succ]
      refine wpAnyH_ready (rs := [10]) (by kernel_rfl) (by simp) ?_
      refine AllReadyH.cons (o := { dst := some 94, op := Op.call { callee := Callee.value (Operand.func 23), args := #[Operand.tmp 91, Operand.tmp 93], argTypes := #[26, 24] }, type := 4, pos := "laws.go:651", after := #[{ on := 7, ground := Ground.data }, { on := 9, ground := Ground.data }, { on := 4, ground := Ground.chain }, { on := 4, ground := Ground.guard }], guard := some (4, true) }) rfl (fun K hK => ?_) AllReadyH.nil
      go_simp
      refine (dUnhide CH7 wd hwd).mono ?_
      rintro e wd ⟨rfl, b9⟩
      replace hwd := belowThen hwd b9
      clear b9
      (try go_wp2_with fail)
      refine hK.out _ _ (by first | with_reducible exact dUnhide PP _ hwd | exact dUnhide PP _ hb | exact dUnhide PP _ (belowThen hb bdr) | go_keep) (fun hHeld => ?_)
      clear hK K
      try simp only [Act.put, List.setIfInBounds_toArray, List.set_cons_zero, List.set_cons_succ]
      refine wpAnyH_take (i := 11) (oi := { dst := some 95, op := Op.binOp BinOp.eql 4 (Operand.tmp 90) (Operand.tmp 94) 4, type := 4, pos := "laws.go:651", after := #[{ on := 6, ground := Ground.data }, { on := 10, ground := Ground.data }, { on := 4, ground := Ground.guard }], guard := some (4, true) }) (v := ?_) rfl (by kernel_rfl) (by kernel_rfl) (by kernel_rfl) (fun _ _ _ h => h) (Or.inl ⟨by rfl, ?_⟩) (by assumption) ?_
      rotate_left 1
      · intro w hSw
        (try dsimp only at hSw)
        first | (go_simp; done) | (go_simp; with_reducible rfl)
      try simp only [Act.put, List.setIfInBounds_toArray, List.set_cons_zero, List.set_cons_succ]
      refine wpAnyH_take (i := 12) (oi := { dst := some 96, op := Op.pick (Operand.tmp 88) (Operand.tmp 95) (Operand.const (Value.bool false)), type := 4, pos := "laws.go:651", after := #[{ on := 4, ground := Ground.data }, { on := 11, ground := Ground.data }], guard := none }) (v := ?_) rfl (by kernel_rfl) (by kernel_rfl) (by kernel_rfl) (fun _ _ _ h => h) (Or.inl ⟨by rfl, ?_⟩) (by assumption) ?_
      rotate_left 1
      · intro w hSw
        (try dsimp only at hSw)
        first | (go_simp; done) | (go_simp; with_reducible rfl)
      try simp only [Act.put, List.setIfInBounds_toArray, List.set_cons_zero, List.set_cons_succ]
      refine wpAnyH_take (i := 13) (oi := { dst := some 97, op := Op.move (Operand.tmp 96), type := 4, pos := "laws.go:651", after := #[{ on := 12, ground := Ground.data }, { on := 10, ground := Ground.chain }], guard := none }) (v := ?_) rfl (by kernel_rfl) (by kernel_rfl) (by kernel_rfl) (fun _ _ _ h => h) (Or.inl ⟨by rfl, ?_⟩) (by assumption) ?_
      rotate_left 1
      · intro w hSw
        (try dsimp only at hSw)
        first | (go_simp; done) | (go_simp; with_reducible rfl)
      try simp only [Act.put, List.setIfInBounds_toArray, List.set_cons_zero, List.set_cons_succ]
      refine wpAnyH_take (i := 14) (oi := { dst := some 98, op := Op.load 29 (Operand.tmp 7), type := 29, pos := "laws.go:651", after := #[{ on := 13, ground := Ground.guard }], guard := some (13, true) }) (v := ?_) rfl (by kernel_rfl) (by kernel_rfl) (by kernel_rfl) (fun _ _ _ h => h) (Or.inl ⟨by rfl, ?_⟩) (by assumption) ?_
      rotate_left 1
      · intro w hSw
        (try dsimp only at hSw)
        first | (go_simp; done) | (go_simp; with_reducible rfl)
      try simp only [Act.put, List.setIfInBounds_toArray, List.set_cons_zero, List.set_cons_succ]
      refine wpAnyH_take (i := 16) (oi := { dst := some 100, op := Op.load 29 (Operand.tmp 4), type := 29, pos := "laws.go:651", after := #[{ on := 13, ground := Ground.guard }], guard := some (13, true) }) (v := ?_) rfl (by kernel_rfl) (by kernel_rfl) (by kernel_rfl) (fun _ _ _ h => h) (Or.inl ⟨by rfl, ?_⟩) (by assumption) ?_
      rotate_left 1
      · intro w hSw
        (try dsimp only at hSw)
        first | (go_simp; done) | (go_simp; with_reducible rfl)
      try simp only [Act.put, List.setIfInBounds_toArray, List.set_cons_zero, List.set_cons_succ]
      refine wpAnyH_ready (rs := [15]) (by kernel_rfl) (by simp) ?_
      refine AllReadyH.cons (o := { dst := some 99, op := Op.call { callee := Callee.value (Operand.func 17), args := #[Operand.tmp 98], argTypes := #[29] }, type := 3, pos := "laws.go:651", after := #[{ on := 14, ground := Ground.data }, { on := 13, ground := Ground.chain }, { on := 13, ground := Ground.guard }], guard := some (13, true) }) rfl (fun K hK => ?_) AllReadyH.nil
      go_simp
      refine (dUnhide CF2 wd hwd).mono ?_
      rintro e wd ⟨rfl, b9⟩
      replace hwd := belowThen hwd b9
      clear b9
      (try go_wp2_with fail)
      refine hK.out _ _ (by first | with_reducible exact dUnhide PP _ hwd | exact dUnhide PP _ hb | exact dUnhide PP _ (belowThen hb bdr) | go_keep) (fun hHeld => ?_)
      clear hK K
      try simp only [Act.put, List.setIfInBounds_toArray, List.set_cons_zero, List.set_cons_succ]
      refine wpAnyH_ready (rs := [17]) (by kernel_rfl) (by simp) ?_
      refine AllReadyH.cons (o := { dst := some 101, op := Op.call { callee := Callee.value (Operand.func 24), args := #[Operand.tmp 100], argTypes := #[29] }, type := 3, pos := "laws.go:651", after := #[{ on := 16, ground := Ground.data }, { on := 15, ground := Ground.chain }, { on := 13, ground := Ground.guard }], guard := some (13, true) }) rfl (fun K hK => ?_) AllReadyH.nil
      go_simp
      refine (dUnhide CF1 wd hwd).mono ?_
      rintro e wd ⟨rfl, b9⟩
      replace hwd := belowThen hwd b9
      clear b9
      (try go_wp2_with fail)
      refine hK.out _ _ (by first | with_reducible exact dUnhide PP _ hwd | exact dUnhide PP _ hb | exact dUnhide PP _ (belowThen hb bdr) | go_keep) (fun hHeld => ?_)
      clear hK K
      try simp only [Act.put, List.setIfInBounds_toArray, List.set_cons_zero, List.set_cons_succ]
      refine wpAnyH_take (i := 18) (oi := { dst := some 102, op := Op.binOp BinOp.geq 3 (Operand.tmp 99) (Operand.tmp 101) 3, type := 4, pos := "laws.go:651", after := #[{ on := 15, ground := Ground.data }, { on := 17, ground := Ground.data }, { on := 13, ground := Ground.guard }], guard := some (13, true) }) (v := ?_) rfl (by kernel_rfl) (by kernel_rfl) (by kernel_rfl) (fun _ _ _ h => h) (Or.inl ⟨by rfl, ?_⟩) (by assumption) ?_
      rotate_left 1
      · intro w hSw
        (try dsimp only at hSw)
        first | (go_simp; done) | (go_simp; with_reducible rfl)
      try simp only [Act.put, List.setIfInBounds_toArray, List.set_cons_zero, List.set_cons_succ]
      refine wpAnyH_take (i := 19) (oi := { dst := some 103, op := Op.pick (Operand.tmp 97) (Operand.tmp 102) (Operand.const (Value.bool false)), type := 4, pos := "laws.go:651", after := #[{ on := 13, ground := Ground.data }, { on := 18, ground := Ground.data }], guard := none }) (v := ?_) rfl (by kernel_rfl) (by kernel_rfl) (by kernel_rfl) (fun _ _ _ h => h) (Or.inl ⟨by rfl, ?_⟩) (by assumption) ?_
      rotate_left 1
      · intro w hSw
        (try dsimp only at hSw)
        first | (go_simp; done) | (go_simp; with_reducible rfl)
      try simp only [Act.put, List.setIfInBounds_toArray, List.set_cons_zero, List.set_cons_succ]
      refine wpAnyH_take (i := 20) (oi := { dst := some 104, op := Op.move (Operand.tmp 103), type := 4, pos := "laws.go:651", after := #[{ on := 19, ground := Ground.data }, { on := 17, ground := Ground.chain }], guard := none }) (v := ?_) rfl (by kernel_rfl) (by kernel_rfl) (by kernel_rfl) (fun _ _ _ h => h) (Or.inl ⟨by rfl, ?_⟩) (by assumption) ?_
      rotate_left 1
      · intro w hSw
        (try dsimp only at hSw)
        first | (go_simp; done) | (go_simp; with_reducible rfl)
      try simp only [Act.put, List.setIfInBounds_toArray, List.set_cons_zero, List.set_cons_succ]
      refine wpAnyH_take (i := 21) (oi := { dst := some 105, op := Op.load 26 (Operand.tmp 3), type := 26, pos := "laws.go:651", after := #[{ on := 20, ground := Ground.guard }], guard := some (20, true) }) (v := ?_) rfl (by kernel_rfl) (by kernel_rfl) (by kernel_rfl) (fun _ _ _ h => h) (Or.inl ⟨by rfl, ?_⟩) (by assumption) ?_
      rotate_left 1
      · intro w hSw
        (try dsimp only at hSw)
        first | (go_simp; done) | (go_simp; with_reducible rfl)
      try simp only [Act.put, List.setIfInBounds_toArray, List.set_cons_zero, List.set_cons_succ]
      refine wpAnyH_take (i := 22) (oi := { dst := some 106, op := Op.load 29 (Operand.tmp 7), type := 29, pos := "laws.go:651", after := #[{ on := 20, ground := Ground.guard }], guard := some (20, true) }) (v := ?_) rfl (by kernel_rfl) (by kernel_rfl) (by kernel_rfl) (fun _ _ _ h => h) (Or.inl ⟨by rfl, ?_⟩) (by assumption) ?_
      rotate_left 1
      · intro w hSw
        (try dsimp only at hSw)
        first | (go_simp; done) | (go_simp; with_reducible rfl)
      try simp only [Act.put, List.setIfInBounds_toArray, List.set_cons_zero, List.set_cons_succ]
      refine wpAnyH_ready (rs := [23]) (by kernel_rfl) (by simp) ?_
      refine AllReadyH.cons (o := { dst := some 107, op := Op.call { callee := Callee.value (Operand.func 18), args := #[Operand.tmp 105, Operand.tmp 106], argTypes := #[26, 29] }, type := 4, pos := "laws.go:651", after := #[{ on := 21, ground := Ground.data }, { on := 22, ground := Ground.data }, { on := 20, ground := Ground.chain }, { on := 20, ground := Ground.guard }], guard := some (20, true) }) rfl (fun K hK => ?_) AllReadyH.nil
      go_simp
      refine (dUnhide CO6 wd hwd).mono ?_
      rintro e wd ⟨rfl, b9⟩
      replace hwd := belowThen hwd b9
      clear b9
      (try go_wp2_with fail)
      refine hK.out _ _ (by first | with_reducible exact dUnhide PP _ hwd | exact dUnhide PP _ hb | exact dUnhide PP _ (belowThen hb bdr) | go_keep) (fun hHeld => ?_)
      clear hK K
      try simp only [Act.put, List.setIfInBounds_toArray, List.set_cons_zero, List.set_cons_succ]
      refine wpAnyH_take (i := 24) (oi := { dst := some 108, op := Op.pick (Operand.tmp 104) (Operand.tmp 107) (Operand.const (Value.bool false)), type := 4, pos := "laws.go:651", after := #[{ on := 20, ground := Ground.data }, { on := 23, ground := Ground.data }], guard := none }) (v := ?_) rfl (by kernel_rfl) (by kernel_rfl) (by kernel_rfl) (fun _ _ _ h => h) (Or.inl ⟨by rfl, ?_⟩) (by assumption) ?_
      rotate_left 1
      · intro w hSw
        (try dsimp only at hSw)
        first | (go_simp; done) | (go_simp; with_reducible rfl)
      try simp only [Act.put, List.setIfInBounds_toArray, List.set_cons_zero, List.set_cons_succ]
      refine wpAnyH_take (i := 25) (oi := { dst := some 2, op := Op.assign (Operand.tmp 108), type := 4, pos := "laws.go:651", after := #[{ on := 24, ground := Ground.data }, { on := 23, ground := Ground.chain }, { on := 0, ground := Ground.phase }, { on := 1, ground := Ground.phase }, { on := 2, ground := Ground.phase }, { on := 3, ground := Ground.phase }, { on := 4, ground := Ground.phase }, { on := 5, ground := Ground.phase }, { on := 6, ground := Ground.phase }, { on := 7, ground := Ground.phase }, { on := 8, ground := Ground.phase }, { on := 9, ground := Ground.phase }, { on := 10, ground := Ground.phase }, { on := 11, ground := Ground.phase }, { on := 12, ground := Ground.phase }, { on := 13, ground := Ground.phase }, { on := 14, ground := Ground.phase }, { on := 15, ground := Ground.phase }, { on := 16, ground := Ground.phase }, { on := 17, ground := Ground.phase }, { on := 18, ground := Ground.phase }, { on := 19, ground := Ground.phase }, { on := 20, ground := Ground.phase }, { on := 21, ground := Ground.phase }, { on := 22, ground := Ground.phase }, { on := 23, ground := Ground.phase }, { on := 24, ground := Ground.phase }], guard := none }) (v := ?_) rfl (by kernel_rfl) (by kernel_rfl) (by kernel_rfl) (fun _ _ _ h => h) (Or.inl ⟨by rfl, ?_⟩) (by assumption) ?_
      rotate_left 1
      · intro w hSw
        (try dsimp only at hSw)
        first | (go_simp; done) | (go_simp; with_reducible rfl)
      try simp only [Act.put, List.setIfInBounds_toArray, List.set_cons_zero, List.set_cons_succ]
      refine wpAnyH_done (by kernel_rfl) ?_ _
      refine NoPanic.normal ?_
      go_wp2_with fail
      go_ret
      exact ⟨by first | rfl | simp, belowThen BX hwd⟩
end Go.Proofs.Ytjbfpmackocgnaa
