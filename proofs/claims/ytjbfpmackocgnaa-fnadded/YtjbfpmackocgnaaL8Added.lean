/- The walk of the law FnAdded (printed by tools/mkl8a.py). -/
import Derived.Test.YtjbfpmackocgnaaAdA
import Derived.Test.YtjbfpmackocgnaaDwG
import Derived.Test.YtjbfpmackocgnaaWrK
import Derived.Test.YtjbfpmackocgnaaWithN
import Derived.Test.YtjbfpmackocgnaaBigB
import Derived.Test.YtjbfpmackocgnaaGaA
import Derived.Deep.DeepCutAuto
namespace Go.Proofs.Ytjbfpmackocgnaa
open Go.ChangeShapes Go.WideShapes Go.ChangeAt Go.RowKit
set_option linter.unusedVariables false
set_option linter.unusedSimpArgs false

set_option maxHeartbeats 16000000 in
set_option maxRecDepth 100000 in
theorem walkFnAdded (a0 : Option Addr) (len0 cap0 : Nat) (z0 : List Int) (w : World) (w0 : IsRow .u8 w a0 len0 cap0 z0) :
    Calls Try.prog 3 #[.slice a0 len0 cap0] w fun e w' => e = .returned (.bool true) ∧ Below w.heap.size w w' := by
  have hr := row8_of w0
  have hlen := hr.1
  clear w0
  by_cases hbig : 1048576 < len0
  · have CB := dHide (big_yes a0 len0 cap0 hbig hlen)
    go_enter Try.func3, Try.ntmps3
    go_wp2_with fail
    refine (dUnhide CB _).mono ?_
    rintro e w1 ⟨rfl, rfl⟩
    go_wp2
    go_ret
    exact ⟨rfl, Below.refl _ _⟩
  have CB := dHide (big_no a0 len0 cap0 hbig)
  have CD := dHide (drawWriterAdd_any a0 len0 cap0 w hr)
  have ba : ∀ (w : World) o, Below w.heap.size w (w.alloc o) := fun w o => (Below.refl _ _).alloc (Nat.le_refl _) o
  clear hbig hr
  go_enter Try.func3, Try.ntmps3
  go_wp2_with fail
  refine (dUnhide CB _).mono ?_
  rintro e w1 ⟨rfl, rfl⟩
  clear CB
  go_wp2_with fail
  refine (dUnhide CD).mono ?_
  rintro e w1 ⟨⟨cv, rv, ds, cop, m, t, rfl, ⟨⟨ca, cc, rfl, N1⟩, hdl, hdd, hcop, ⟨a, c, rfl⟩, R1, hf⟩, ht⟩, B1⟩
  clear CD
  have okc : okConfig (ds, cop) := ⟨fun d hd => by have := hdd d hd; omega, by show -9223372036854775808 ≤ cop; omega, by show cop ≤ 9223372036854775807; omega⟩
  have hsc : sizConfig (ds, cop) ≤ 1048576 := by show ds.length ≤ 1048576; omega
  have bA := ba w1 (.cells #[.slice ca ds.length cc, .int .i64 cop] 26)
  have bB := ba (w1.alloc (.cells #[.slice ca ds.length cc, .int .i64 cop] 26)) (.cells #[.int .i64 m.epoch, .slice a m.words.length c] 29)
  have bb := belowThen bA bB
  have X2 := (Bx.new w1 [.slice ca ds.length cc, .int .i64 cop] 26).below bB
  have Y2 := Bx.new (w1.alloc (.cells #[.slice ca ds.length cc, .int .i64 cop] 26)) [.int .i64 m.epoch, .slice a m.words.length c] 29
  rw [show (w1.alloc (.cells #[.slice ca ds.length cc, .int .i64 cop] 26)).heap.size = w1.heap.size + 1 from by simp] at Y2
  have N2 := N1.below bb
  have R2 := R1.below bb
  have B2 := belowThen B1 bb
  clear bA bB N1 R1 B1 bb
  go_wp2_with fail
  generalize (w1.alloc (.cells #[.slice ca ds.length cc, .int .i64 cop] 26)).alloc (.cells #[.int .i64 m.epoch, .slice a m.words.length c] 29) = w5 at *
  generalize w1.heap.size = cb at *
  have C1 := implAdd_any _ _ (ds, cop) m t w5 ⟨_, rfl, N2⟩ R2 okc hf.ok hsc (hf.siz (by omega)) (by omega)
  have C2 := fun W (hb : Below w5.heap.size w5 W) => specAdd_any _ _ (ds, cop) m t W ⟨_, rfl, N2.below hb⟩ (R2.below hb) (hf.siz (by omega)) (by omega)
  have CO := fun W (hb : Below w5.heap.size w5 W) v' m' (hv : RdWriter v' m' W) ok hs => implWriterOk_any (.agg #[.slice ca ds.length cc, .int .i64 cop]) v' (ds, cop) m' W ⟨_, rfl, N2.below hb⟩ hv okc ok hsc hs
  have TF : Hid ((addM ds cop m t).2.2 = false → ((addM ds cop m t).1.words.length = m.words.length ∨ (addM ds cop m t).1.words.length = 0)) := fun h => by
    by_cases hp : wrP ds cop m
    · by_cases hq : wrP ds cop (addW m t)
      · rw [addM_yes hp hq] at h; cases h
      · rw [addM_no hp hq]; exact .inl rfl
    · rw [addM_bad hp]; exact .inr rfl
  have TT : Hid ((addM ds cop m t).2.2 = true → wrP ds cop (addW m t) ∧ (addM ds cop m t).1 = addW m t ∧ (addM ds cop m t).2.1 = (m.words.length : Int) + 1) := fun h => by
    by_cases hp : wrP ds cop m
    · by_cases hq : wrP ds cop (addW m t)
      · rw [addM_yes hp hq]; exact ⟨hq, rfl, rfl⟩
      · rw [addM_no hp hq] at h; cases h
    · rw [addM_bad hp] at h; cases h
  simp only at C1 C2 CO
  generalize addM ds cop m t = T at *
  obtain ⟨n, of, nb⟩ := T
  simp only at *
  replace C1 := dHide C1
  replace C2 := dHide C2
  replace CO := dHide CO
  refine (dUnhide C1).mono ?_
  rintro e w6 ⟨⟨u3, rfl, O3⟩, b3⟩
  obtain ⟨a3, c3, rfl⟩ := O3.slice
  have bC := ba w6 (.cells #[.int .i64 n.epoch, .slice a3 n.words.length c3] 29)
  have b4 := belowThen b3 bC
  have X4 := X2.below b4
  have Y4 := Y2.below b4
  have Z4 := Bx.new w6 [.int .i64 n.epoch, .slice a3 n.words.length c3] 29
  have R4 := RdK.below O3.rd bC
  have B4 := belowThen B2 b4
  have C24 := dHide (dUnhide C2 _ b4)
  have x0 := X4 0 _ rfl
  have x1 := X4 1 _ rfl
  have y0 := Y4 0 _ rfl
  have y1 := Y4 1 _ rfl
  clear C1 C2 O3 X2 Y2 B2 b3 bC
  go_wp2_with fail
  generalize hnb : w6.heap.size = nx at *
  generalize w6.alloc (.cells #[.int .i64 n.epoch, .slice a3 n.words.length c3] 29) = w7 at *
  refine (dUnhide C24).mono ?_
  rintro e w8 ⟨⟨u5, rfl, O5⟩, b5⟩
  obtain ⟨a5, c5, rfl⟩ := O5.slice
  have bD := ba w8 (.cells #[.int .i64 n.epoch, .slice a5 n.words.length c5] 29)
  have b6 := belowThen b5 bD
  have b46 := belowThen b4 b6
  have X6 := X4.below b6
  have Y6 := Y4.below b6
  have Z6 := Z4.below b6
  have R6 := RdK.below R4 b6
  have B6 := belowThen B4 b6
  have RM := R2.below b46
  clear C24 O5 X4 Y4 Z4 R4 B4 b5 bD x0 x1 y0 y1 b6 b4 R2 N2
  have y1 := Y6 1 _ rfl
  have z1' := Z6 1 _ rfl
  cases nb
  · have hT := dUnhide TF rfl
    clear TF TT CO RM R6
    generalize n.words.length = nl at *
    have hr : (((nl : Int) == (m.words.length : Int)) = true) ∨ (((nl : Int) == (m.words.length : Int)) = false ∧ ((nl : Int) == 0) = true) := by
      by_cases e : nl = m.words.length
      · left; simp [e]
      · right; exact ⟨by simp; omega, by simp; omega⟩
    clear hT
    rcases hr with h | ⟨h, h'⟩
    · go_wp2
      go_ret
      exact ⟨rfl, B6⟩
    · go_wp2
      go_ret
      exact ⟨rfl, B6⟩
  obtain ⟨hwr', hn, hof⟩ := dUnhide TT rfl
  subst hof
  clear TF TT
  have hel : m.words.length ≤ 60 := hf.1
  have hel2 : m.words.length + 1 ≤ 60 := by
    have := hwr'.2.2.1
    simpa [addW] using this
  have hfn : okWriter n ∧ sizWriter n ≤ 1048576 := by rw [hn]; exact add_fit hf ht
  have hnl : n.words.length = m.words.length + 1 := by rw [hn]; simp [addW]
  have hne : n.epoch = m.epoch := by rw [hn]; rfl
  have hsu : sureL n.words ≤ m.words.length := by rw [hn]; exact add_sure _ _
  have HE : Hid (∀ i (hi : i < m.words.length) (hi' : i < n.words.length), n.words[i] = m.words[i]) := fun i hi hi' => by
    subst hn
    simp [addW, hi]
  have HL : Hid (∀ (hi' : m.words.length < n.words.length), n.words[m.words.length] = ⟨t, [], false⟩) := fun hi' => by
    subst hn
    simp [addW]
  have CF2 := dHide fun W (hb : Below (w8.alloc (.cells #[.int .i64 n.epoch, .slice a5 n.words.length c5] 29)).heap.size (w8.alloc (.cells #[.int .i64 n.epoch, .slice a5 n.words.length c5] 29)) W) => implSure_any (.agg #[.int .i64 n.epoch, .slice a3 n.words.length c3]) n W (by omega) ⟨_, rfl, RdK.below R6 hb⟩
  have CO6 := dHide fun W (hb : Below (w8.alloc (.cells #[.int .i64 n.epoch, .slice a5 n.words.length c5] 29)).heap.size (w8.alloc (.cells #[.int .i64 n.epoch, .slice a5 n.words.length c5] 29)) W) => retB_yes (dUnhide CO W (belowThen b46 hb) (.agg #[.int .i64 n.epoch, .slice a3 n.words.length c3]) n ⟨_, rfl, RdK.below R6 hb⟩ hfn.1 hfn.2) (by rw [hn]; exact hwr')
  have HNL := dHide hnl
  have HNE := dHide hne
  have HSU := dHide hsu
  clear CO hn hwr' hfn hnl hsu hne
  go_wp2_with fail
  generalize w8.alloc (.cells #[.int .i64 n.epoch, .slice a5 n.words.length c5] 29) = wa at *
  have hnl := dUnhide HNL
  have HX := dHide fun W (hb : Below wa.heap.size wa W) => X6.below hb
  have HY := dHide fun W (hb : Below wa.heap.size wa W) => Y6.below hb
  have HZ := dHide fun W (hb : Below wa.heap.size wa W) => Z6.below hb
  obtain ⟨sm, em, rm, hmm, hrm, hnm⟩ := RM
  cases em
  obtain ⟨rn, hmn, hrn, hnn⟩ := R6
  have HRM := dHide fun W (hb : Below wa.heap.size wa W) => hrm.below hb
  have HRN := dHide fun W (hb : Below wa.heap.size wa W) => hrn.below hb
  have lm : rm.length = m.words.length := by rw [← hmm, List.length_map]
  have ln : rn.length = m.words.length + 1 := by rw [← hnl, ← hmn, List.length_map]
  have HM : Hid (∀ i (h : i < rm.length) (h' : i < m.words.length), rm[i].m = m.words[i]) := fun i h h' => by simp only [← hmm, List.getElem_map]
  have HN : Hid (∀ i (h : i < rn.length) (h' : i < n.words.length), rn[i].m = n.words[i]) := fun i h h' => by simp only [← hmn, List.getElem_map]
  clear X6 Y6 Z6 hrm hrn hmm hmn hnm hnn y1 z1' b46
  have hne := dUnhide HNE
  rw [hnl] at HZ HRN CF2 CO6
  rw [hne] at HZ CF2 CO6
  generalize sureL n.words = sr at *
  have hsr := dUnhide HSU
  clear hnl hne HNE HSU
  go_wp2
  go_loopw [12] (fun q wr => ∃ i : Nat, q = .int .i64 (i : Int) ∧ i ≤ m.words.length ∧ Below wa.heap.size wa wr) (fun q _ => m.words.length - (intOf q).toNat)
  case atStart => exact ⟨0, rfl, Nat.zero_le _, Below.refl _ _⟩
  case round =>
    obtain ⟨i, rfl, hi, hb⟩ := hrel
    have y1 := dUnhide HY wr hb 1 _ rfl
    have z1 := dUnhide HZ wr hb 1 _ rfl
    by_cases hlt : (i : Int) < (m.words.length : Int)
    · have hil : i < m.words.length := by omega
      obtain ⟨b, off, rfl, hce⟩ := (dUnhide HRM wr hb).word (show i < rm.length by omega)
      obtain ⟨b', off', rfl, hce'⟩ := (dUnhide HRN wr hb).word (show i < rn.length by omega)
      have hp1 := hce i (by omega)
      have hq1 := hce' i (by omega)
      have ep := dUnhide HM i (by omega) hil
      have hin : i < n.words.length := by have := dUnhide HNL; omega
      have eq := dUnhide HN i (by omega) hin
      rw [dUnhide HE i hil hin, ← ep] at eq
      clear hin
      unfold WdAt at hp1 hq1
      rw [eq] at hq1
      obtain ⟨k0, -, k2⟩ := hp1
      obtain ⟨j0, -, j2⟩ := hq1
      generalize rm[i].m = p at *
      obtain ⟨pd, pn, pb⟩ := p
      simp only at k0 k2 j0 j2
      have hi2 : (i : Int) < ((m.words.length + 1 : Nat) : Int) := by omega
      clear hce hce' ep eq HM HN HE HRM HRN CF2 CO6 HL
      go_wp2_with fail
      go_quiet (fail)
      go_wp2
      go_roundw
      case rel => exact ⟨i + 1, by go_num, by omega, belowThen hb (Drew.below ((Drew.refl wr).drewN _))⟩
      case measure => simp [intOf]; omega
    · obtain ⟨b', off', rfl, hce'⟩ := (dUnhide HRN wr hb).word (show m.words.length < rn.length by omega)
      have hq1 := hce' m.words.length (by omega)
      have hin : m.words.length < n.words.length := by have := dUnhide HNL; omega
      have eq := dUnhide HN m.words.length (by omega) hin
      rw [dUnhide HL hin] at eq
      unfold WdAt at hq1
      rw [eq] at hq1
      obtain ⟨j0, j1, j2⟩ := hq1
      simp only [List.length_nil] at j0 j1 j2
      generalize rn[m.words.length].a = ta at *
      generalize rn[m.words.length].c = tc at *
      have t3 : IntKind.i64.wrap ((m.words.length : Int) + 1 - 1) = (m.words.length : Int) := by rw [IntKind.wrap_i64]; omega
      have t4 : (m.words.length : Int) < ((m.words.length + 1 : Nat) : Int) := by omega
      have t5 : (0 : Int) ≤ (m.words.length : Int) := by omega
      have bW := ba wr (.cells #[.string t, .slice ta 0 tc, .bool false] 35)
      have V9 := Bx.new wr [.string t, .slice ta 0 tc, .bool false] 35
      have B9 := belowThen B6 (belowThen hb bW)
      have bx := belowThen hb bW
      clear HM HN HE HRM HRN HL eq hce' hin
      go_wp2_with fail
      generalize hxb : wr.heap.size = xb at *
      generalize wr.alloc (.cells #[.string t, .slice ta 0 tc, .bool false] 35) = wx at *
      have bdr : Below wx.heap.size wx wx.drew := (Below.refl _ _).drew
      have PP : Hid (∀ W, Below wx.heap.size wx W → (W.cell? ⟨cb, 0, none⟩ = some (.slice ca ds.length cc) ∧ W.cell? ⟨cb, 1, none⟩ = some (.int .i64 cop)) ∧ W.cell? ⟨cb + 1, 1, none⟩ = some (.slice a m.words.length c) ∧ (W.cell? ⟨nx, 0, none⟩ = some (.int .i64 m.epoch) ∧ W.cell? ⟨nx, 1, none⟩ = some (.slice (some ⟨b', off', none⟩) (m.words.length + 1) c3)) ∧ W.cell? ⟨xb, 0, none⟩ = some (.string t) ∧ W.cell? ⟨xb, 1, none⟩ = some (.slice ta 0 tc) ∧ W.cell? ⟨xb, 2, none⟩ = some (.bool false)) := fun W hW => ⟨⟨dUnhide HX W (belowThen bx hW) 0 _ rfl, dUnhide HX W (belowThen bx hW) 1 _ rfl⟩, dUnhide HY W (belowThen bx hW) 1 _ rfl, ⟨dUnhide HZ W (belowThen bx hW) 0 _ rfl, dUnhide HZ W (belowThen bx hW) 1 _ rfl⟩, V9.below hW 0 _ rfl, V9.below hW 1 _ rfl, V9.below hW 2 _ rfl⟩
      replace CF2 := dHide fun W (hW : Below wx.heap.size wx W) => dUnhide CF2 W (belowThen bx hW)
      replace CO6 := dHide fun W (hW : Below wx.heap.size wx W) => dUnhide CO6 W (belowThen bx hW)
      have hq1 : (((m.words.length : Int) + 1) == ((m.words.length : Int) + 1)) = true := by simp
      have hq2 : ((sr : Int) ≤ (m.words.length : Int)) := by omega
      have hq3 : decide ((sr : Int) ≤ (m.words.length : Int)) = true := by simpa using hq2
      have hq4 : IntKind.i64.wrap ((m.words.length : Int) + 1) = (m.words.length : Int) + 1 := by rw [IntKind.wrap_i64]; omega
      clear j0 j1 j2 y1 z1 HX HY HZ V9
      go_wp2_with fail
      refine wp_region_noPanic ?_
      refine wp_region_held_drew (S := fun W => (W.cell? ⟨cb, 0, none⟩ = some (.slice ca ds.length cc) ∧ W.cell? ⟨cb, 1, none⟩ = some (.int .i64 cop)) ∧ W.cell? ⟨cb + 1, 1, none⟩ = some (.slice a m.words.length c) ∧ (W.cell? ⟨nx, 0, none⟩ = some (.int .i64 m.epoch) ∧ W.cell? ⟨nx, 1, none⟩ = some (.slice (some ⟨b', off', none⟩) (m.words.length + 1) c3)) ∧ W.cell? ⟨xb, 0, none⟩ = some (.string t) ∧ W.cell? ⟨xb, 1, none⟩ = some (.slice ta 0 tc) ∧ W.cell? ⟨xb, 2, none⟩ = some (.bool false)) (by kernel_rfl) (by first | with_reducible exact dUnhide PP _ hwd | exact dUnhide PP _ (Below.refl _ _) | exact dUnhide PP _ bdr | go_keep) (fun hHeld => ?_)
      have hwd : Below wx.heap.size wx wx.drew := (Below.refl _ _).drew
      generalize wx.drew = wd at *
      refine wpAnyH_take (i := 0) (oi := { dst := some 102, op := Op.move (Operand.tmp 7), type := 3, pos := "laws.go:628", after := #[], guard := none }) (v := ?_) rfl (by kernel_rfl) (by kernel_rfl) (by kernel_rfl) (fun _ _ _ h => h) (Or.inl ⟨by rfl, ?_⟩) (by assumption) ?_
      rotate_left 1
      · intro w hSw
        (try dsimp only at hSw)
        first | (go_simp; done) | (go_simp; with_reducible rfl)
      try simp only [Act.put, List.setIfInBounds_toArray, List.set_cons_zero, List.set_cons_succ]
      refine wpAnyH_take (i := 1) (oi := { dst := some 103, op := Op.fieldAddr 29 (Operand.tmp 4) 1, type := 0, pos := "laws.go:628", after := #[], guard := none }) (v := ?_) rfl (by kernel_rfl) (by kernel_rfl) (by kernel_rfl) (fun _ _ _ h => h) (Or.inl ⟨by rfl, ?_⟩) (by assumption) ?_
      rotate_left 1
      · intro w hSw
        (try dsimp only at hSw)
        first | (go_simp; done) | (go_simp; with_reducible rfl)
      try simp only [Act.put, List.setIfInBounds_toArray, List.set_cons_zero, List.set_cons_succ]
      refine wpAnyH_take (i := 2) (oi := { dst := some 104, op := Op.load 27 (Operand.tmp 103), type := 27, pos := "laws.go:628", after := #[{ on := 1, ground := Ground.data }], guard := none }) (v := ?_) rfl (by kernel_rfl) (by kernel_rfl) (by kernel_rfl) (fun _ _ _ h => h) (Or.inl ⟨by rfl, ?_⟩) (by assumption) ?_
      rotate_left 1
      · intro w hSw
        (try dsimp only at hSw)
        first | (go_simp; done) | (go_simp; with_reducible rfl)
      try simp only [Act.put, List.setIfInBounds_toArray, List.set_cons_zero, List.set_cons_succ]
      refine wpAnyH_take (i := 3) (oi := { dst := some 105, op := Op.call { callee := Callee.builtin Builtin.len, args := #[Operand.tmp 104], argTypes := #[27] }, type := 3, pos := "laws.go:628", after := #[{ on := 2, ground := Ground.data }], guard := none }) (v := ?_) rfl (by kernel_rfl) (by kernel_rfl) (by kernel_rfl) (fun _ _ _ h => h) (Or.inl ⟨by rfl, ?_⟩) (by assumption) ?_
      rotate_left 1
      · intro w hSw
        (try dsimp only at hSw)
        first | (go_simp; done) | (go_simp; with_reducible rfl)
      try simp only [Act.put, List.setIfInBounds_toArray, List.set_cons_zero, List.set_cons_succ]
      refine wpAnyH_take (i := 4) (oi := { dst := some 106, op := Op.binOp BinOp.add 3 (Operand.tmp 105) (Operand.const (Value.int IntKind.i64 1)) 3, type := 3, pos := "laws.go:628", after := #[{ on := 3, ground := Ground.data }], guard := none }) (v := ?_) rfl (by kernel_rfl) (by kernel_rfl) (by kernel_rfl) (fun _ _ _ h => h) (Or.inl ⟨by rfl, ?_⟩) (by assumption) ?_
      rotate_left 1
      · intro w hSw
        (try dsimp only at hSw)
        first | (go_simp; done) | (go_simp; with_reducible rfl)
      try simp only [Act.put, List.setIfInBounds_toArray, List.set_cons_zero, List.set_cons_succ]
      refine wpAnyH_take (i := 5) (oi := { dst := some 107, op := Op.binOp BinOp.eql 3 (Operand.tmp 102) (Operand.tmp 106) 3, type := 4, pos := "laws.go:628", after := #[{ on := 0, ground := Ground.data }, { on := 4, ground := Ground.data }], guard := none }) (v := ?_) rfl (by kernel_rfl) (by kernel_rfl) (by kernel_rfl) (fun _ _ _ h => h) (Or.inl ⟨by rfl, ?_⟩) (by assumption) ?_
      rotate_left 1
      · intro w hSw
        (try dsimp only at hSw)
        first | (go_simp; done) | (go_simp; with_reducible rfl)
      try simp only [Act.put, List.setIfInBounds_toArray, List.set_cons_zero, List.set_cons_succ]
      refine wpAnyH_take (i := 6) (oi := { dst := some 108, op := Op.move (Operand.tmp 107), type := 4, pos := "laws.go:628", after := #[{ on := 5, ground := Ground.data }], guard := none }) (v := ?_) rfl (by kernel_rfl) (by kernel_rfl) (by kernel_rfl) (fun _ _ _ h => h) (Or.inl ⟨by rfl, ?_⟩) (by assumption) ?_
      rotate_left 1
      · intro w hSw
        (try dsimp only at hSw)
        first | (go_simp; done) | (go_simp; with_reducible rfl)
      try simp only [Act.put, List.setIfInBounds_toArray, List.set_cons_zero, List.set_cons_succ]
      refine wpAnyH_take (i := 7) (oi := { dst := some 109, op := Op.fieldAddr 35 (Operand.tmp 13) 0, type := 0, pos := "laws.go:628", after := #[{ on := 6, ground := Ground.guard }], guard := some (6, true) }) (v := ?_) rfl (by kernel_rfl) (by kernel_rfl) (by kernel_rfl) (fun _ _ _ h => h) (Or.inl ⟨by rfl, ?_⟩) (by assumption) ?_
      rotate_left 1
      · intro w hSw
        (try dsimp only at hSw)
        first | (go_simp; done) | (go_simp; with_reducible rfl)
      try simp only [Act.put, List.setIfInBounds_toArray, List.set_cons_zero, List.set_cons_succ]
      refine wpAnyH_take (i := 8) (oi := { dst := some 110, op := Op.load 9 (Operand.tmp 109), type := 9, pos := "laws.go:628", after := #[{ on := 7, ground := Ground.data }, { on := 6, ground := Ground.guard }], guard := some (6, true) }) (v := ?_) rfl (by kernel_rfl) (by kernel_rfl) (by kernel_rfl) (fun _ _ _ h => h) (Or.inl ⟨by rfl, ?_⟩) (by assumption) ?_
      rotate_left 1
      · intro w hSw
        (try dsimp only at hSw)
        first | (go_simp; done) | (go_simp; with_reducible rfl)
      try simp only [Act.put, List.setIfInBounds_toArray, List.set_cons_zero, List.set_cons_succ]
      refine wpAnyH_take (i := 9) (oi := { dst := some 111, op := Op.move (Operand.tmp 5), type := 9, pos := "laws.go:628", after := #[{ on := 6, ground := Ground.guard }], guard := some (6, true) }) (v := ?_) rfl (by kernel_rfl) (by kernel_rfl) (by kernel_rfl) (fun _ _ _ h => h) (Or.inl ⟨by rfl, ?_⟩) (by assumption) ?_
      rotate_left 1
      · intro w hSw
        (try dsimp only at hSw)
        first | (go_simp; done) | (go_simp; with_reducible rfl)
      try simp only [Act.put, List.setIfInBounds_toArray, List.set_cons_zero, List.set_cons_succ]
      refine wpAnyH_take (i := 10) (oi := { dst := some 112, op := Op.binOp BinOp.eql 9 (Operand.tmp 110) (Operand.tmp 111) 9, type := 4, pos := "laws.go:628", after := #[{ on := 8, ground := Ground.data }, { on := 9, ground := Ground.data }, { on := 6, ground := Ground.guard }], guard := some (6, true) }) (v := ?_) rfl (by kernel_rfl) (by kernel_rfl) (by kernel_rfl) (fun _ _ _ h => h) (Or.inl ⟨by rfl, ?_⟩) (by assumption) ?_
      rotate_left 1
      · intro w hSw
        (try dsimp only at hSw)
        first | (go_simp; done) | (go_simp; with_reducible rfl)
      try simp only [Act.put, List.setIfInBounds_toArray, List.set_cons_zero, List.set_cons_succ]
      refine wpAnyH_take (i := 11) (oi := { dst := some 113, op := Op.pick (Operand.tmp 108) (Operand.tmp 112) (Operand.const (Value.bool false)), type := 4, pos := "laws.go:628", after := #[{ on := 6, ground := Ground.data }, { on := 10, ground := Ground.data }], guard := none }) (v := ?_) rfl (by kernel_rfl) (by kernel_rfl) (by kernel_rfl) (fun _ _ _ h => h) (Or.inl ⟨by rfl, ?_⟩) (by assumption) ?_
      rotate_left 1
      · intro w hSw
        (try dsimp only at hSw)
        first | (go_simp; done) | (go_simp; with_reducible rfl)
      try simp only [Act.put, List.setIfInBounds_toArray, List.set_cons_zero, List.set_cons_succ]
      refine wpAnyH_take (i := 12) (oi := { dst := some 114, op := Op.move (Operand.tmp 113), type := 4, pos := "laws.go:628", after := #[{ on := 11, ground := Ground.data }, { on := 6, ground := Ground.chain }], guard := none }) (v := ?_) rfl (by kernel_rfl) (by kernel_rfl) (by kernel_rfl) (fun _ _ _ h => h) (Or.inl ⟨by rfl, ?_⟩) (by assumption) ?_
      rotate_left 1
      · intro w hSw
        (try dsimp only at hSw)
        first | (go_simp; done) | (go_simp; with_reducible rfl)
      try simp only [Act.put, List.setIfInBounds_toArray, List.set_cons_zero, List.set_cons_succ]
      refine wpAnyH_take (i := 13) (oi := { dst := some 115, op := Op.fieldAddr 35 (Operand.tmp 13) 1, type := 0, pos := "laws.go:628", after := #[{ on := 12, ground := Ground.guard }], guard := some (12, true) }) (v := ?_) rfl (by kernel_rfl) (by kernel_rfl) (by kernel_rfl) (fun _ _ _ h => h) (Or.inl ⟨by rfl, ?_⟩) (by assumption) ?_
      rotate_left 1
      · intro w hSw
        (try dsimp only at hSw)
        first | (go_simp; done) | (go_simp; with_reducible rfl)
      try simp only [Act.put, List.setIfInBounds_toArray, List.set_cons_zero, List.set_cons_succ]
      refine wpAnyH_take (i := 14) (oi := { dst := some 116, op := Op.load 24 (Operand.tmp 115), type := 24, pos := "laws.go:628", after := #[{ on := 13, ground := Ground.data }, { on := 12, ground := Ground.guard }], guard := some (12, true) }) (v := ?_) rfl (by kernel_rfl) (by kernel_rfl) (by kernel_rfl) (fun _ _ _ h => h) (Or.inl ⟨by rfl, ?_⟩) (by assumption) ?_
      rotate_left 1
      · intro w hSw
        (try dsimp only at hSw)
        first | (go_simp; done) | (go_simp; with_reducible rfl)
      try simp only [Act.put, List.setIfInBounds_toArray, List.set_cons_zero, List.set_cons_succ]
      refine wpAnyH_take (i := 15) (oi := { dst := some 117, op := Op.call { callee := Callee.builtin Builtin.len, args := #[Operand.tmp 116], argTypes := #[24] }, type := 3, pos := "laws.go:628", after := #[{ on := 14, ground := Ground.data }, { on := 12, ground := Ground.guard }], guard := some (12, true) }) (v := ?_) rfl (by kernel_rfl) (by kernel_rfl) (by kernel_rfl) (fun _ _ _ h => h) (Or.inl ⟨by rfl, ?_⟩) (by assumption) ?_
      rotate_left 1
      · intro w hSw
        (try dsimp only at hSw)
        first | (go_simp; done) | (go_simp; with_reducible rfl)
      try simp only [Act.put, List.setIfInBounds_toArray, List.set_cons_zero, List.set_cons_succ]
      refine wpAnyH_take (i := 16) (oi := { dst := some 118, op := Op.binOp BinOp.eql 3 (Operand.tmp 117) (Operand.const (Value.int IntKind.i64 0)) 3, type := 4, pos := "laws.go:628", after := #[{ on := 15, ground := Ground.data }, { on := 12, ground := Ground.guard }], guard := some (12, true) }) (v := ?_) rfl (by kernel_rfl) (by kernel_rfl) (by kernel_rfl) (fun _ _ _ h => h) (Or.inl ⟨by rfl, ?_⟩) (by assumption) ?_
      rotate_left 1
      · intro w hSw
        (try dsimp only at hSw)
        first | (go_simp; done) | (go_simp; with_reducible rfl)
      try simp only [Act.put, List.setIfInBounds_toArray, List.set_cons_zero, List.set_cons_succ]
      refine wpAnyH_take (i := 17) (oi := { dst := some 119, op := Op.pick (Operand.tmp 114) (Operand.tmp 118) (Operand.const (Value.bool false)), type := 4, pos := "laws.go:628", after := #[{ on := 12, ground := Ground.data }, { on := 16, ground := Ground.data }], guard := none }) (v := ?_) rfl (by kernel_rfl) (by kernel_rfl) (by kernel_rfl) (fun _ _ _ h => h) (Or.inl ⟨by rfl, ?_⟩) (by assumption) ?_
      rotate_left 1
      · intro w hSw
        (try dsimp only at hSw)
        first | (go_simp; done) | (go_simp; with_reducible rfl)
      try simp only [Act.put, List.setIfInBounds_toArray, List.set_cons_zero, List.set_cons_succ]
      refine wpAnyH_take (i := 18) (oi := { dst := some 120, op := Op.move (Operand.tmp 119), type := 4, pos := "laws.go:628", after := #[{ on := 17, ground := Ground.data }, { on := 12, ground := Ground.chain }], guard := none }) (v := ?_) rfl (by kernel_rfl) (by kernel_rfl) (by kernel_rfl) (fun _ _ _ h => h) (Or.inl ⟨by rfl, ?_⟩) (by assumption) ?_
      rotate_left 1
      · intro w hSw
        (try dsimp only at hSw)
        first | (go_simp; done) | (go_simp; with_reducible rfl)
      try simp only [Act.put, List.setIfInBounds_toArray, List.set_cons_zero, List.set_cons_succ]
      refine wpAnyH_take (i := 19) (oi := { dst := some 121, op := Op.fieldAddr 35 (Operand.tmp 13) 2, type := 0, pos := "laws.go:628", after := #[{ on := 18, ground := Ground.guard }], guard := some (18, true) }) (v := ?_) rfl (by kernel_rfl) (by kernel_rfl) (by kernel_rfl) (fun _ _ _ h => h) (Or.inl ⟨by rfl, ?_⟩) (by assumption) ?_
      rotate_left 1
      · intro w hSw
        (try dsimp only at hSw)
        first | (go_simp; done) | (go_simp; with_reducible rfl)
      try simp only [Act.put, List.setIfInBounds_toArray, List.set_cons_zero, List.set_cons_succ]
      refine wpAnyH_take (i := 20) (oi := { dst := some 122, op := Op.load 4 (Operand.tmp 121), type := 4, pos := "laws.go:628", after := #[{ on := 19, ground := Ground.data }, { on := 18, ground := Ground.guard }], guard := some (18, true) }) (v := ?_) rfl (by kernel_rfl) (by kernel_rfl) (by kernel_rfl) (fun _ _ _ h => h) (Or.inl ⟨by rfl, ?_⟩) (by assumption) ?_
      rotate_left 1
      · intro w hSw
        (try dsimp only at hSw)
        first | (go_simp; done) | (go_simp; with_reducible rfl)
      try simp only [Act.put, List.setIfInBounds_toArray, List.set_cons_zero, List.set_cons_succ]
      refine wpAnyH_take (i := 21) (oi := { dst := some 123, op := Op.unOp UnOp.not 4 (Operand.tmp 122), type := 4, pos := "laws.go:628", after := #[{ on := 20, ground := Ground.data }, { on := 18, ground := Ground.guard }], guard := some (18, true) }) (v := ?_) rfl (by kernel_rfl) (by kernel_rfl) (by kernel_rfl) (fun _ _ _ h => h) (Or.inl ⟨by rfl, ?_⟩) (by assumption) ?_
      rotate_left 1
      · intro w hSw
        (try dsimp only at hSw)
        first | (go_simp; done) | (go_simp; with_reducible rfl)
      try simp only [Act.put, List.setIfInBounds_toArray, List.set_cons_zero, List.set_cons_succ]
      refine wpAnyH_take (i := 22) (oi := { dst := some 124, op := Op.pick (Operand.tmp 120) (Operand.tmp 123) (Operand.const (Value.bool false)), type := 4, pos := "laws.go:628", after := #[{ on := 18, ground := Ground.data }, { on := 21, ground := Ground.data }], guard := none }) (v := ?_) rfl (by kernel_rfl) (by kernel_rfl) (by kernel_rfl) (fun _ _ _ h => h) (Or.inl ⟨by rfl, ?_⟩) (by assumption) ?_
      rotate_left 1
      · intro w hSw
        (try dsimp only at hSw)
        first | (go_simp; done) | (go_simp; with_reducible rfl)
      try simp only [Act.put, List.setIfInBounds_toArray, List.set_cons_zero, List.set_cons_succ]
      refine wpAnyH_take (i := 23) (oi := { dst := some 125, op := Op.move (Operand.tmp 124), type := 4, pos := "laws.go:628", after := #[{ on := 22, ground := Ground.data }, { on := 18, ground := Ground.chain }], guard := none }) (v := ?_) rfl (by kernel_rfl) (by kernel_rfl) (by kernel_rfl) (fun _ _ _ h => h) (Or.inl ⟨by rfl, ?_⟩) (by assumption) ?_
      rotate_left 1
      · intro w hSw
        (try dsimp only at hSw)
        first | (go_simp; done) | (go_simp; with_reducible rfl)
      try simp only [Act.put, List.setIfInBounds_toArray, List.set_cons_zero, List.set_cons_succ]
      refine wpAnyH_take (i := 24) (oi := { dst := some 126, op := Op.load 29 (Operand.tmp 6), type := 29, pos := "laws.go:628", after := #[{ on := 23, ground := Ground.guard }], guard := some (23, true) }) (v := ?_) rfl (by kernel_rfl) (by kernel_rfl) (by kernel_rfl) (fun _ _ _ h => h) (Or.inl ⟨by rfl, ?_⟩) (by assumption) ?_
      rotate_left 1
      · intro w hSw
        (try dsimp only at hSw)
        first | (go_simp; done) | (go_simp; with_reducible rfl)
      try simp only [Act.put, List.setIfInBounds_toArray, List.set_cons_zero, List.set_cons_succ]
      refine wpAnyH_take (i := 26) (oi := { dst := some 128, op := Op.fieldAddr 29 (Operand.tmp 4) 1, type := 0, pos := "laws.go:628", after := #[{ on := 23, ground := Ground.guard }], guard := some (23, true) }) (v := ?_) rfl (by kernel_rfl) (by kernel_rfl) (by kernel_rfl) (fun _ _ _ h => h) (Or.inl ⟨by rfl, ?_⟩) (by assumption) ?_
      rotate_left 1
      · intro w hSw
        (try dsimp only at hSw)
        first | (go_simp; done) | (go_simp; with_reducible rfl)
      try simp only [Act.put, List.setIfInBounds_toArray, List.set_cons_zero, List.set_cons_succ]
      refine wpAnyH_take (i := 27) (oi := { dst := some 129, op := Op.load 27 (Operand.tmp 128), type := 27, pos := "laws.go:628", after := #[{ on := 26, ground := Ground.data }, { on := 23, ground := Ground.guard }], guard := some (23, true) }) (v := ?_) rfl (by kernel_rfl) (by kernel_rfl) (by kernel_rfl) (fun _ _ _ h => h) (Or.inl ⟨by rfl, ?_⟩) (by assumption) ?_
      rotate_left 1
      · intro w hSw
        (try dsimp only at hSw)
        first | (go_simp; done) | (go_simp; with_reducible rfl)
      try simp only [Act.put, List.setIfInBounds_toArray, List.set_cons_zero, List.set_cons_succ]
      refine wpAnyH_take (i := 28) (oi := { dst := some 130, op := Op.call { callee := Callee.builtin Builtin.len, args := #[Operand.tmp 129], argTypes := #[27] }, type := 3, pos := "laws.go:628", after := #[{ on := 27, ground := Ground.data }, { on := 23, ground := Ground.guard }], guard := some (23, true) }) (v := ?_) rfl (by kernel_rfl) (by kernel_rfl) (by kernel_rfl) (fun _ _ _ h => h) (Or.inl ⟨by rfl, ?_⟩) (by assumption) ?_
      rotate_left 1
      · intro w hSw
        (try dsimp only at hSw)
        first | (go_simp; done) | (go_simp; with_reducible rfl)
      try simp only [Act.put, List.setIfInBounds_toArray, List.set_cons_zero, List.set_cons_succ]
      refine wpAnyH_ready (rs := [25]) (by kernel_rfl) (by simp) ?_
      refine AllReadyH.cons (o := { dst := some 127, op := Op.call { callee := Callee.value (Operand.func 17), args := #[Operand.tmp 126], argTypes := #[29] }, type := 3, pos := "laws.go:628", after := #[{ on := 24, ground := Ground.data }, { on := 23, ground := Ground.chain }, { on := 23, ground := Ground.guard }], guard := some (23, true) }) rfl (fun K hK => ?_) AllReadyH.nil
      go_simp
      refine (dUnhide CF2 wd hwd).mono ?_
      rintro e wd ⟨rfl, b9⟩
      replace hwd := belowThen hwd b9
      clear b9
      (try go_wp2_with fail)
      refine hK.out _ _ (by first | with_reducible exact dUnhide PP _ hwd | exact dUnhide PP _ (Below.refl _ _) | exact dUnhide PP _ bdr | go_keep) (fun hHeld => ?_)
      clear hK K
      try simp only [Act.put, List.setIfInBounds_toArray, List.set_cons_zero, List.set_cons_succ]
      refine wpAnyH_take (i := 29) (oi := { dst := some 131, op := Op.binOp BinOp.leq 3 (Operand.tmp 127) (Operand.tmp 130) 3, type := 4, pos := "laws.go:628", after := #[{ on := 25, ground := Ground.data }, { on := 28, ground := Ground.data }, { on := 23, ground := Ground.guard }], guard := some (23, true) }) (v := ?_) rfl (by kernel_rfl) (by kernel_rfl) (by kernel_rfl) (fun _ _ _ h => h) (Or.inl ⟨by rfl, ?_⟩) (by assumption) ?_
      rotate_left 1
      · intro w hSw
        (try dsimp only at hSw)
        first | (go_simp; done) | (go_simp; with_reducible rfl)
      try simp only [Act.put, List.setIfInBounds_toArray, List.set_cons_zero, List.set_cons_succ]
      refine wpAnyH_take (i := 30) (oi := { dst := some 132, op := Op.pick (Operand.tmp 125) (Operand.tmp 131) (Operand.const (Value.bool false)), type := 4, pos := "laws.go:628", after := #[{ on := 23, ground := Ground.data }, { on := 29, ground := Ground.data }], guard := none }) (v := ?_) rfl (by kernel_rfl) (by kernel_rfl) (by kernel_rfl) (fun _ _ _ h => h) (Or.inl ⟨by rfl, ?_⟩) (by assumption) ?_
      rotate_left 1
      · intro w hSw
        (try dsimp only at hSw)
        first | (go_simp; done) | (go_simp; with_reducible rfl)
      try simp only [Act.put, List.setIfInBounds_toArray, List.set_cons_zero, List.set_cons_succ]
      refine wpAnyH_take (i := 31) (oi := { dst := some 133, op := Op.move (Operand.tmp 132), type := 4, pos := "laws.go:628", after := #[{ on := 30, ground := Ground.data }, { on := 25, ground := Ground.chain }], guard := none }) (v := ?_) rfl (by kernel_rfl) (by kernel_rfl) (by kernel_rfl) (fun _ _ _ h => h) (Or.inl ⟨by rfl, ?_⟩) (by assumption) ?_
      rotate_left 1
      · intro w hSw
        (try dsimp only at hSw)
        first | (go_simp; done) | (go_simp; with_reducible rfl)
      try simp only [Act.put, List.setIfInBounds_toArray, List.set_cons_zero, List.set_cons_succ]
      refine wpAnyH_take (i := 32) (oi := { dst := some 134, op := Op.load 26 (Operand.tmp 3), type := 26, pos := "laws.go:628", after := #[{ on := 31, ground := Ground.guard }], guard := some (31, true) }) (v := ?_) rfl (by kernel_rfl) (by kernel_rfl) (by kernel_rfl) (fun _ _ _ h => h) (Or.inl ⟨by rfl, ?_⟩) (by assumption) ?_
      rotate_left 1
      · intro w hSw
        (try dsimp only at hSw)
        first | (go_simp; done) | (go_simp; with_reducible rfl)
      try simp only [Act.put, List.setIfInBounds_toArray, List.set_cons_zero, List.set_cons_succ]
      refine wpAnyH_take (i := 33) (oi := { dst := some 135, op := Op.load 29 (Operand.tmp 6), type := 29, pos := "laws.go:628", after := #[{ on := 31, ground := Ground.guard }], guard := some (31, true) }) (v := ?_) rfl (by kernel_rfl) (by kernel_rfl) (by kernel_rfl) (fun _ _ _ h => h) (Or.inl ⟨by rfl, ?_⟩) (by assumption) ?_
      rotate_left 1
      · intro w hSw
        (try dsimp only at hSw)
        first | (go_simp; done) | (go_simp; with_reducible rfl)
      try simp only [Act.put, List.setIfInBounds_toArray, List.set_cons_zero, List.set_cons_succ]
      refine wpAnyH_ready (rs := [34]) (by kernel_rfl) (by simp) ?_
      refine AllReadyH.cons (o := { dst := some 136, op := Op.call { callee := Callee.value (Operand.func 18), args := #[Operand.tmp 134, Operand.tmp 135], argTypes := #[26, 29] }, type := 4, pos := "laws.go:628", after := #[{ on := 32, ground := Ground.data }, { on := 33, ground := Ground.data }, { on := 31, ground := Ground.chain }, { on := 31, ground := Ground.guard }], guard := some (31, true) }) rfl (fun K hK => ?_) AllReadyH.nil
      go_simp
      refine (dUnhide CO6 wd hwd).mono ?_
      rintro e wd ⟨rfl, b9⟩
      replace hwd := belowThen hwd b9
      clear b9
      (try go_wp2_with fail)
      refine hK.out _ _ (by first | with_reducible exact dUnhide PP _ hwd | exact dUnhide PP _ (Below.refl _ _) | exact dUnhide PP _ bdr | go_keep) (fun hHeld => ?_)
      clear hK K
      try simp only [Act.put, List.setIfInBounds_toArray, List.set_cons_zero, List.set_cons_succ]
      refine wpAnyH_take (i := 35) (oi := { dst := some 137, op := Op.pick (Operand.tmp 133) (Operand.tmp 136) (Operand.const (Value.bool false)), type := 4, pos := "laws.go:628", after := #[{ on := 31, ground := Ground.data }, { on := 34, ground := Ground.data }], guard := none }) (v := ?_) rfl (by kernel_rfl) (by kernel_rfl) (by kernel_rfl) (fun _ _ _ h => h) (Or.inl ⟨by rfl, ?_⟩) (by assumption) ?_
      rotate_left 1
      · intro w hSw
        (try dsimp only at hSw)
        first | (go_simp; done) | (go_simp; with_reducible rfl)
      try simp only [Act.put, List.setIfInBounds_toArray, List.set_cons_zero, List.set_cons_succ]
      refine wpAnyH_take (i := 36) (oi := { dst := some 2, op := Op.assign (Operand.tmp 137), type := 4, pos := "laws.go:628", after := #[{ on := 35, ground := Ground.data }, { on := 34, ground := Ground.chain }, { on := 0, ground := Ground.phase }, { on := 1, ground := Ground.phase }, { on := 2, ground := Ground.phase }, { on := 3, ground := Ground.phase }, { on := 4, ground := Ground.phase }, { on := 5, ground := Ground.phase }, { on := 6, ground := Ground.phase }, { on := 7, ground := Ground.phase }, { on := 8, ground := Ground.phase }, { on := 9, ground := Ground.phase }, { on := 10, ground := Ground.phase }, { on := 11, ground := Ground.phase }, { on := 12, ground := Ground.phase }, { on := 13, ground := Ground.phase }, { on := 14, ground := Ground.phase }, { on := 15, ground := Ground.phase }, { on := 16, ground := Ground.phase }, { on := 17, ground := Ground.phase }, { on := 18, ground := Ground.phase }, { on := 19, ground := Ground.phase }, { on := 20, ground := Ground.phase }, { on := 21, ground := Ground.phase }, { on := 22, ground := Ground.phase }, { on := 23, ground := Ground.phase }, { on := 24, ground := Ground.phase }, { on := 25, ground := Ground.phase }, { on := 26, ground := Ground.phase }, { on := 27, ground := Ground.phase }, { on := 28, ground := Ground.phase }, { on := 29, ground := Ground.phase }, { on := 30, ground := Ground.phase }, { on := 31, ground := Ground.phase }, { on := 32, ground := Ground.phase }, { on := 33, ground := Ground.phase }, { on := 34, ground := Ground.phase }, { on := 35, ground := Ground.phase }], guard := none }) (v := ?_) rfl (by kernel_rfl) (by kernel_rfl) (by kernel_rfl) (fun _ _ _ h => h) (Or.inl ⟨by rfl, ?_⟩) (by assumption) ?_
      rotate_left 1
      · intro w hSw
        (try dsimp only at hSw)
        first | (go_simp; done) | (go_simp; with_reducible rfl)
      try simp only [Act.put, List.setIfInBounds_toArray, List.set_cons_zero, List.set_cons_succ]
      refine wpAnyH_done (by kernel_rfl) ?_ _
      refine NoPanic.normal ?_
      go_wp2_with fail
      go_ret
      exact ⟨by first | rfl | simp, belowThen B9 hwd⟩
end Go.Proofs.Ytjbfpmackocgnaa
