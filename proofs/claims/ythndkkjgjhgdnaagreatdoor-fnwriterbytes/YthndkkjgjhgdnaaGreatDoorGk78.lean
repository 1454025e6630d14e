/- Several texts in one: PiH, PiK, PrN, PvJ, DwC, DwZ. -/
import Derived.Test.YthndkkjgjhgdnaaGreatDoorGk73
import Derived.Test.YthndkkjgjhgdnaaGreatDoorGk72
import Derived.Test.YthndkkjgjhgdnaaGreatDoorGaA
import Derived.Test.YthndkkjgjhgdnaaGreatDoorGk81
import Derived.Deep.RegionHeld3
import Derived.Deep.DeepCutAuto
import Derived.Test.YthndkkjgjhgdnaaGreatDoorGk82
import Derived.Test.YthndkkjgjhgdnaaGreatDoorGk55
import Derived.Test.YthndkkjgjhgdnaaGreatDoorDwB
import Derived.Test.YthndkkjgjhgdnaaGreatDoorGk83
import Derived.Laws.OwnMore
namespace Go.Proofs.YthndkkjgjhgdnaaGreatDoor
open Go.ChangeShapes Go.WideShapes Go.ChangeAt Go.RowKit
set_option linter.unusedVariables false
set_option linter.unusedSimpArgs false
set_option maxRecDepth 100000

/-- How a writer lasts: three functions. -/
def writerFormL (cb : Nat) : List Value := [.func (.func 67) #[] #[.pointer (some ⟨cb, 0, none⟩)], .func (.func 69) #[] #[], .func (.func 70) #[] #[.pointer (some ⟨cb, 0, none⟩)]]
set_option maxHeartbeats 4000000 in
theorem packWriter_any (cb : Nat) (x0 : Int) (a : Option Addr) (n cap : Nat) (P : Prop) (M : List UInt8 × Bool) (bs : List UInt8) (hy : P → M = (bs, true)) (hn : ¬ P → M = ([], false)) (w : World)
    (CR : ∀ W, Below w.heap.size w W → Calls Tryz.prog 67 #[.agg #[.int .i64 x0, .slice a n cap], .pointer (some ⟨cb, 0, none⟩)] W fun e w' => RetB P e ∧ Below W.heap.size W w')
    (CW : P → ∀ W, Below w.heap.size w W → Calls Tryz.prog 69 #[.slice none 0 0, .agg #[.int .i64 x0, .slice a n cap]] W fun e w' => ∃ u, e = .returned u ∧ OwnX w' W.heap.size u bs ∧ Below W.heap.size W w') :
    Calls Tryz.prog 36 #[.agg (writerFormL cb).toArray, .agg #[.int .i64 x0, .slice a n cap]] w fun e w' => (∃ u, e = .returned (.tuple #[u, .bool M.2]) ∧ OwnX w' w.heap.size u M.1) ∧ Below w.heap.size w w' := by
  have CR := dHide CR
  have CW := dHide CW
  have HY := dHide hy
  have HN := dHide hn
  have ba : ∀ (w : World) o, Below w.heap.size w (w.alloc o) := fun w o => (Below.refl _ _).alloc (Nat.le_refl _) o
  clear hy hn
  unfold writerFormL
  have X0 := Bx.new w [.func (.func 67) #[] #[.pointer (some ⟨cb, 0, none⟩)], .func (.func 69) #[] #[], .func (.func 70) #[] #[.pointer (some ⟨cb, 0, none⟩)]] 76
  have B0 := ba w (.cells #[.func (.func 67) #[] #[.pointer (some ⟨cb, 0, none⟩)], .func (.func 69) #[] #[], .func (.func 70) #[] #[.pointer (some ⟨cb, 0, none⟩)]] 76)
  have X1 := Bx.new (w.alloc (.cells #[.func (.func 67) #[] #[.pointer (some ⟨cb, 0, none⟩)], .func (.func 69) #[] #[], .func (.func 70) #[] #[.pointer (some ⟨cb, 0, none⟩)]] 76)) [.int .i64 x0, .slice a n cap] 40
  have b1 := ba (w.alloc (.cells #[.func (.func 67) #[] #[.pointer (some ⟨cb, 0, none⟩)], .func (.func 69) #[] #[], .func (.func 70) #[] #[.pointer (some ⟨cb, 0, none⟩)]] 76)) (.cells #[.int .i64 x0, .slice a n cap] 40)
  replace X0 := X0.below b1
  have B1 := belowThen B0 b1
  have hs : (w.alloc (.cells #[.func (.func 67) #[] #[.pointer (some ⟨cb, 0, none⟩)], .func (.func 69) #[] #[], .func (.func 70) #[] #[.pointer (some ⟨cb, 0, none⟩)]] 76)).heap.size = w.heap.size + 1 := by simp
  rw [hs] at X1
  clear hs B0 b1 ba
  go_enter Tryz.func36, Tryz.ntmps36
  go_upto_region 1 with fail
  generalize (w.alloc (.cells #[.func (.func 67) #[] #[.pointer (some ⟨cb, 0, none⟩)], .func (.func 69) #[] #[], .func (.func 70) #[] #[.pointer (some ⟨cb, 0, none⟩)]] 76)).alloc (.cells #[.int .i64 x0, .slice a n cap] 40) = w1 at *
  have k0 := X0 0 _ rfl
  have k1 := X0 1 _ rfl
  have q0 := X1 0 _ rfl
  have q1 := X1 1 _ rfl
  go_wp2_with fail
  refine (dUnhide CR _ B1).mono ?_
  rintro e w2 ⟨hr, b2⟩
  have B2 := belowThen B1 b2
  replace X0 := X0.below b2
  replace X1 := X1.below b2
  have k0 := X0 0 _ rfl
  have k1 := X0 1 _ rfl
  have q0 := X1 0 _ rfl
  have q1 := X1 1 _ rfl
  have hsz := B2.size
  clear CR b2 B1 X0 X1
  by_cases hP : P
  · obtain rfl := hr.of_yes hP
    have HM := dHide (dUnhide HY hP)
    have C2 := dHide (dUnhide CW hP _ B2)
    clear hr HY HN CW hP
    go_wp2_with fail
    refine (dUnhide C2).mono ?_
    rintro e w3 ⟨u, rfl, O3, b3⟩
    have F := dHide (And.intro (O3.mono hsz) (belowThen B2 b3))
    clear C2 O3 b3 B2 hsz k0 k1 q0 q1
    have e2 := dUnhide HM
    clear HM
    subst e2
    go_wp2
    go_ret2
    exact ⟨⟨_, rfl, (dUnhide F).1⟩, (dUnhide F).2⟩
  · obtain rfl := hr.of_no hP
    have e2 := dUnhide HN hP
    clear hr HY HN CW hP
    subst e2
    go_wp2
    go_ret2
    exact ⟨⟨_, rfl, OwnX.nil _ _⟩, B2⟩
set_option maxHeartbeats 2000000 in
theorem writerForm_any (a : Option Addr) (n cap : Nat) (x : Int) (w : World) :
    Calls Tryz.prog 35 #[.agg #[.slice a n cap, .int .i64 x]] w fun e w' => ∃ cb, e = .returned (.agg (writerFormL cb).toArray) ∧ Bx w' cb [.slice a n cap, .int .i64 x] ∧ Below w.heap.size w w' := by
  have X0 := Bx.new w [.slice a n cap, .int .i64 x] 26
  have b0 : Below w.heap.size w (w.alloc (.cells #[.slice a n cap, .int .i64 x] 26)) := (Below.refl _ _).alloc (Nat.le_refl _) _
  have Y0 := BxZ.new (w.alloc (.cells #[.slice a n cap, .int .i64 x] 26)) [.nilFunc, .nilFunc, .nilFunc] 76 (B := (w.alloc (.cells #[.slice a n cap, .int .i64 x] 26)).heap.size) (Nat.le_refl _)
  have b1 : Below (w.alloc (.cells #[.slice a n cap, .int .i64 x] 26)).heap.size (w.alloc (.cells #[.slice a n cap, .int .i64 x] 26)) ((w.alloc (.cells #[.slice a n cap, .int .i64 x] 26)).alloc (.cells #[.nilFunc, .nilFunc, .nilFunc] 76)) := (Below.refl _ _).alloc (Nat.le_refl _) _
  have hs : (w.alloc (.cells #[.slice a n cap, .int .i64 x] 26)).heap.size = w.heap.size + 1 := by simp
  have X1 := X0.below b1
  have B1 := belowThen b0 b1
  rw [hs] at Y0
  clear b0 X0 b1
  go_enter Tryz.func35, Tryz.ntmps35
  go_wp2_with (refine wp_putW rfl _ _ _ rfl rfl (writerFormL w.heap.size) rfl rfl Y0 rfl (by kernel_rfl) (by kernel_rfl) ?_; intro w2 Y2 s2 g2 b2)
  refine bodyPost_ret (results_box Tryz.results35 _ _ _ (writerFormL w.heap.size) _ rfl Y2.bx Tryz.underlying76 rfl (by kernel_rfl)) rfl ⟨_, rfl, X1.off g2 (by omega), B1.trans (b2.mono (by omega))⟩
set_option maxHeartbeats 4000000 in
theorem implWriterPack_face (c : List Int × Int) (ca : Option Addr) (cc : Nat) (m : Wt) (a : Option Addr) (cap : Nat) (w : World)
    (CP : ∀ W cb, Below w.heap.size w W → Bx W cb [.slice ca c.1.length cc, .int .i64 c.2] → Calls Tryz.prog 36 #[.agg (writerFormL cb).toArray, .agg #[.int .i64 m.epoch, .slice a m.words.length cap]] W fun e w' => (∃ u, e = .returned (.tuple #[u, .bool (wtM c.1 c.2 m).2]) ∧ OwnX w' W.heap.size u (wtM c.1 c.2 m).1) ∧ Below W.heap.size W w') :
    Calls Tryz.prog 13 #[.agg #[.slice ca c.1.length cc, .int .i64 c.2], .agg #[.int .i64 m.epoch, .slice a m.words.length cap]] w fun e w' => (∃ u, e = .returned (.tuple #[u, .bool (wtM c.1 c.2 m).2]) ∧ OwnX w' w.heap.size u (wtM c.1 c.2 m).1) ∧ Below w.heap.size w w' := by
  have ba : ∀ (w : World) o, Below w.heap.size w (w.alloc o) := fun w o => (Below.refl _ _).alloc (Nat.le_refl _) o
  have CF := dHide fun W => writerForm_any ca c.1.length cc c.2 W
  have CP := dHide CP
  generalize wtM c.1 c.2 m = M at *
  have e1 : (w.alloc (.cells #[.slice ca c.1.length cc, .int .i64 c.2] 26)).heap.size = w.heap.size + 1 := by simp
  have X0 := (Bx.new w [.slice ca c.1.length cc, .int .i64 c.2] 26).below (ba _ (.cells #[.int .i64 m.epoch, .slice a m.words.length cap] 40))
  have X1 := Bx.new (w.alloc (.cells #[.slice ca c.1.length cc, .int .i64 c.2] 26)) [.int .i64 m.epoch, .slice a m.words.length cap] 40
  rw [e1] at X1
  have B0 := belowThen (ba w (.cells #[.slice ca c.1.length cc, .int .i64 c.2] 26)) (ba _ (.cells #[.int .i64 m.epoch, .slice a m.words.length cap] 40))
  have hsz : ((w.alloc (.cells #[.slice ca c.1.length cc, .int .i64 c.2] 26)).alloc (.cells #[.int .i64 m.epoch, .slice a m.words.length cap] 40)).heap.size = w.heap.size + 2 := by simp
  have KX : Hid (∀ W, Below (w.heap.size + 2) ((w.alloc (.cells #[.slice ca c.1.length cc, .int .i64 c.2] 26)).alloc (.cells #[.int .i64 m.epoch, .slice a m.words.length cap] 40)) W → (W.cell? ⟨w.heap.size, 0, none⟩ = some (.slice ca c.1.length cc) ∧ W.cell? ⟨w.heap.size, 1, none⟩ = some (.int .i64 c.2) ∧ W.cell? ⟨w.heap.size + 1, 0, none⟩ = some (.int .i64 m.epoch) ∧ W.cell? ⟨w.heap.size + 1, 1, none⟩ = some (.slice a m.words.length cap)) ∧ Below w.heap.size w W) := fun W hb => by
    rw [← hsz] at hb
    have X := X0.below hb
    have Y := X1.below hb
    exact ⟨⟨X 0 _ rfl, X 1 _ rfl, Y 0 _ rfl, Y 1 _ rfl⟩, belowThen B0 hb⟩
  clear X0 X1 B0 ba e1
  go_enter Tryz.func13, Tryz.ntmps13
  go_upto_region 1 with fail
  generalize (w.alloc (.cells #[.slice ca c.1.length cc, .int .i64 c.2] 26)).alloc (.cells #[.int .i64 m.epoch, .slice a m.words.length cap] 40) = w0 at *
  have hbr : Below (w.heap.size + 2) w0 w0 := Below.refl _ _
  have HS := dHide hsz
  obtain ⟨p0, p1, p2, p3⟩ := (dUnhide KX _ hbr).1
  clear hsz
  go_region_held3 (fun W => W.cell? ⟨w.heap.size, 0, none⟩ = some (.slice ca c.1.length cc) ∧ W.cell? ⟨w.heap.size, 1, none⟩ = some (.int .i64 c.2) ∧ W.cell? ⟨w.heap.size + 1, 0, none⟩ = some (.int .i64 m.epoch) ∧ W.cell? ⟨w.heap.size + 1, 1, none⟩ = some (.slice a m.words.length cap)) (go_keep)
    (first
      | (go_at_call 35; refine (dUnhide CF _).mono ?_; rintro e w2 ⟨cb, rfl, x2, b2⟩; have B2 : Below (w.heap.size + 2) w0 w2 := hbr.drew.trans (b2.mono (by first | exact hbr.drew.size | (have := dUnhide HS; simp; omega))); obtain ⟨r0, r1, r2, r3⟩ := (dUnhide KX _ B2).1; have R2 := dHide (And.intro (dUnhide KX _ B2).2 x2); clear b2 x2)
      | (go_at_call 36; refine (dUnhide CP _ _ (dUnhide R2).1 (dUnhide R2).2).mono ?_; rintro e w3 ⟨⟨u, rfl, O3⟩, b3⟩; have B3 : Below (w.heap.size + 2) w0 w3 := B2.trans (b3.mono (by have := dUnhide HS; have := B2.size; omega)); obtain ⟨t0, t1, t2, t3⟩ := (dUnhide KX _ B3).1; have F := dHide (And.intro (O3.mono (dUnhide R2).1.size) (belowThen (dUnhide R2).1 b3)); clear O3 b3)
      | fail)
  all_goals (try go_wp2)
  all_goals (go_ret2; exact ⟨⟨_, rfl, (dUnhide F).1⟩, (dUnhide F).2⟩)
end Go.Proofs.YthndkkjgjhgdnaaGreatDoor
namespace Go.Proofs.YthndkkjgjhgdnaaGreatDoor
open Go.ChangeShapes Go.WideShapes Go.ChangeAt Go.RowKit
set_option linter.unusedVariables false
set_option linter.unusedSimpArgs false
set_option maxRecDepth 100000

set_option maxHeartbeats 2000000 in
theorem writerForm1_any (c : List Int × Int) (ca : Option Addr) (cc : Nat) (m : Wt) (a : Option Addr) (cap cb : Nat) (w : World) (hc : RdConfig (.agg #[.slice ca c.1.length cc, .int .i64 c.2]) c w) (hv : RdWriter (.agg #[.int .i64 m.epoch, .slice a m.words.length cap]) m w) (okc : okConfig c) (ok : okWriter m) (hsc : sizConfig c ≤ 1048576) (hs : sizWriter m ≤ 1048576) (X : Bx w cb [.slice ca c.1.length cc, .int .i64 c.2]) :
    Calls Tryz.prog 67 #[.agg #[.int .i64 m.epoch, .slice a m.words.length cap], .pointer (some ⟨cb, 0, none⟩)] w fun r w' => RetB (wrP c.1 c.2 m) r ∧ Below w.heap.size w w' := by
  have ba : ∀ (w : World) o, Below w.heap.size w (w.alloc o) := fun w o => (Below.refl _ _).alloc (Nat.le_refl _) o
  have CO := dHide fun W (hb : Below w.heap.size w W) => implWriterOk_any _ _ c m W (hc.below hb) (hv.below hb) okc ok hsc hs
  generalize wrP c.1 c.2 m = P at *
  have B0 := ba w (.cells #[.int .i64 m.epoch, .slice a m.words.length cap] 40)
  have X1 := X.below B0
  have k0 := X1 0 _ rfl
  have k1 := X1 1 _ rfl
  clear hv hc ba X X1
  go_enter Tryz.func67, Tryz.ntmps67
  go_wp2_with fail
  refine (dUnhide CO _ B0).mono ?_
  rintro e w1 ⟨⟨b1, rfl, h1⟩, hb1⟩
  have R : RetB P (.returned (.bool b1)) := ⟨b1, rfl, h1⟩
  have B1 := belowThen B0 hb1
  clear CO hb1 B0 h1 k0 k1
  go_wp2
  go_ret
  exact ⟨R, B1⟩
theorem wdAcks_len (m : Wt) (hs : sizWriter m ≤ 1048576) : ∀ e ∈ m.words, e.acks.length ≤ 1048576 := fun e he => by
  obtain ⟨i, hi, rfl⟩ := List.getElem_of_mem he
  have h1 := sumW_mem hi
  unfold sizWriter sizWordS at hs
  omega
theorem wds_take_len (m : Wt) (hs : sizWriter m ≤ 1048576) (hev : ∀ e ∈ m.words, natI e.acks ∧ e.data.size ≤ 40) (k : Nat) : ((m.words.take k).flatMap wdB).length ≤ 100000000 := by
  have h1 := wdsB_len (m.words.take k)
  have h2 := sumW_le m.words k
  have h4 := sumX_le m.words k
  have h3 : (m.words.take k).length ≤ m.words.length := by rw [List.length_take]; omega
  unfold sizWriter sizWordS at hs
  omega
set_option maxHeartbeats 4000000 in
theorem implWriterPack_any (cv v : Value) (c : List Int × Int) (m : Wt) (w : World) (hcv : RdConfig cv c w) (hv : RdWriter v m w) (okc : okConfig c) (ok : okWriter m) (hsc : sizConfig c ≤ 1048576) (hs : sizWriter m ≤ 1048576) :
    Calls Tryz.prog 13 #[cv, v] w fun e w' => (∃ u, e = .returned (.tuple #[u, .bool (wtM c.1 c.2 m).2]) ∧ OwnX w' w.heap.size u (wtM c.1 c.2 m).1) ∧ Below w.heap.size w w' := by
  have hcv0 := hcv
  have hv0 := hv
  obtain ⟨ca, cc, rfl, hcl⟩ := formConfig hcv
  obtain ⟨sv, rfl, rs, hm, hr, hn⟩ := hv
  have hlen : rs.length = m.words.length := by rw [← hm, List.length_map]
  have HR := fun W (hb : Below w.heap.size w W) => hr.below hb
  have HN := fun W (hb : Below w.heap.size w W) k (hk : k < rs.length) => (hn _ (List.getElem_mem hk)).below hb
  obtain ⟨-, a, cap, rfl, -, -⟩ := hr
  rw [hlen] at hv0 ⊢
  refine implWriterPack_face c ca cc m a cap w fun W cb hW hX => ?_
  refine packWriter_any cb m.epoch a m.words.length cap (wrP c.1 c.2 m) (wtM c.1 c.2 m) (wtB m) wtM_yes wtM_no W (fun W' hb' => writerForm1_any c ca cc m a cap cb W' (hcv0.below (belowThen hW hb')) (hv0.below (belowThen hW hb')) okc ok hsc hs (hX.below hb')) fun hP W' hb' => ?_
  have hev : ∀ e ∈ m.words, natI e.acks ∧ e.data.size ≤ 40 := fun e he => by
    obtain ⟨i, hi, rfl⟩ := List.getElem_of_mem he
    obtain ⟨q1, q2, -⟩ := hP.2.2.2.1 i hi
    exact ⟨natI_nodes q2, q1⟩
  have htr : 0 ≤ m.epoch ∧ m.epoch ≤ 30 := ⟨by have := hP.2.1; omega, hP.2.1.2⟩
  obtain ⟨n0, hn0⟩ := Int.eq_ofNat_of_zero_le htr.1
  have hsz2 : m.words.length ≤ 1048576 := by unfold sizWriter sizWordS at hs; omega
  rw [hn0]
  have C := addWriter_x W'.heap.size W' (.slice none 0 0) [] n0 (by omega) a cap rs (by have := hsz2; omega) (by rw [hm]; exact wds_take_len m hs hev) (fun W2 hb2 => by have := HR W2 (belowThen (belowThen hW hb') hb2); exact this) (fun k hk u xs W2 hb2 ho hx hB => by
    have hmem : rs[k].m ∈ m.words := by rw [← hm]; exact List.mem_map.2 ⟨_, List.getElem_mem hk, rfl⟩
    have g := hev _ hmem
    have hnl := wdAcks_len m hs _ hmem
    have HNk := fun W3 (h3 : Below W'.heap.size W' W3) => HN W3 (belowThen (belowThen hW hb') h3) k hk
    generalize rs[k] = y at *
    obtain ⟨ya, yc, ⟨da, ns, dn⟩⟩ := y
    simp only [Sv] at g hnl HNk ⊢
    have hd : da.size ≤ 40 := g.2
    have := addWord_x W'.heap.size W' u xs da ya yc ns dn g.1 hnl (by omega) HNk hx W2 hb2 ho hB
    have e1 : wdB ⟨da, ns, dn⟩ = textB da.data.toList ++ lstB ns := rfl
    rw [e1]
    exact this) (by simp) W' (Below.refl _ _) (OwnX.nil _ _) (Nat.le_refl _)
  rw [← hlen]
  refine C.mono ?_
  rintro e w' ⟨v, rfl, O, T⟩
  refine ⟨v, rfl, ?_, T.below (by intro k hk; cases hk) (Below.refl _ _) (Nat.le_refl _)⟩
  rw [hm, hlen] at O
  simpa [wtB, hn0] using O
end Go.Proofs.YthndkkjgjhgdnaaGreatDoor
namespace Go.Proofs.YthndkkjgjhgdnaaGreatDoor
open Go.ChangeShapes Go.WideShapes Go.ChangeAt Go.RowKit
set_option linter.unusedVariables false
set_option linter.unusedSimpArgs false
set_option maxRecDepth 100000

set_option maxHeartbeats 8000000 in
theorem writer_any (ab : Nat) (v : Value) (bs : List UInt8) (w : World) (ds : List Int) (cop : Int) (ca : Option Addr) (cc : Nat) (hc : Rc w ab v 0 true) (HV : ∀ W, Wr ab (ab + 2) w W → Bs W v bs) (HN : ∀ W, Wr ab (ab + 2) w W → Ns W (.slice ca ds.length cc) ds) (had : allInt ds) (hld : ds.length ≤ 1048576) (c0 : -9223372036854775808 ≤ cop) (c1 : cop ≤ 9223372036854775807) (hl : bs.length ≤ 1048576) (hne : bs = [] ∨ blockOf v ≠ ab) :
    Calls Tryz.prog 71 #[.pointer (some ⟨ab + 1, 0, none⟩), .agg #[.slice ca ds.length cc, .int .i64 cop]] w fun e w' => ∃ (x : Int) (ua : Option Addr) (n c : Nat) (m : Wt), e = .returned (.agg #[.int .i64 x, .slice ua n c]) ∧ (x = m.epoch ∧ n = m.words.length ∧ WAp w' w.heap.size (.slice ua m.words.length c) m.words) ∧ ((wtRd ds cop bs).2.2 = true → m = wtRm ds cop bs) ∧ Rc w' ab v (wtRd ds cop bs).2.1 (wtRd ds cop bs).2.2 ∧ Wr ab (ab + 2) w w' := by
  have hab := hc.lt
  have ba : ∀ (w : World) o, Below w.heap.size w (w.alloc o) := fun w o => (Below.refl _ _).alloc (Nat.le_refl _) o
  have i1 : (w.alloc (.cells #[.pointer (some ⟨ab + 1, 0, none⟩)] 95)).heap.size = w.heap.size + 1 := by simp
  have i2 : ((w.alloc (.cells #[.pointer (some ⟨ab + 1, 0, none⟩)] 95)).alloc (.cells #[.slice ca ds.length cc, .int .i64 cop] 26)).heap.size = w.heap.size + 2 := by simp
  have B0 := belowThen (belowThen (ba w (.cells #[.pointer (some ⟨ab + 1, 0, none⟩)] 95)) (ba _ (.cells #[.slice ca ds.length cc, .int .i64 cop] 26))) (ba _ (.cells #[.int .i64 0, .slice none 0 0] 40))
  have X0 := ((BxZ.new (B := w.heap.size) w [.pointer (some ⟨ab + 1, 0, none⟩)] 95 (Nat.le_refl _)).below (ba _ (.cells #[.slice ca ds.length cc, .int .i64 cop] 26))).below (ba _ (.cells #[.int .i64 0, .slice none 0 0] 40))
  have G0 := (BxZ.new (B := w.heap.size) (w.alloc (.cells #[.pointer (some ⟨ab + 1, 0, none⟩)] 95)) [.slice ca ds.length cc, .int .i64 cop] 26 (by omega)).below (ba _ (.cells #[.int .i64 0, .slice none 0 0] 40))
  rw [i1] at G0
  have Z0 := BxZ.new (B := w.heap.size) ((w.alloc (.cells #[.pointer (some ⟨ab + 1, 0, none⟩)] 95)).alloc (.cells #[.slice ca ds.length cc, .int .i64 cop] 26)) [.int .i64 0, .slice none 0 0] 40 (by omega)
  rw [i2] at Z0
  have hs0 : (((w.alloc (.cells #[.pointer (some ⟨ab + 1, 0, none⟩)] 95)).alloc (.cells #[.slice ca ds.length cc, .int .i64 cop] 26)).alloc (.cells #[.int .i64 0, .slice none 0 0] 40)).heap.size = w.heap.size + 3 := by simp
  have HV := dHide HV
  have HN := dHide HN
  have C1 := dHide fun (W : World) (hd : Wr ab (ab + 2) w W) (hc : Rc W ab v 0 true) => (show Calls Tryz.prog 92 #[.pointer (some ⟨ab + 1, 0, none⟩)] W fun e w' => ∃ x : Int, e = .returned (.int .i64 x) ∧ (0 ≤ x ∧ x ≤ 9223372036854775807) ∧ ((wtRa bs).2.2 = true → x = (wtRa bs).1) ∧ Rc w' ab v (wtRa bs).2.1 (wtRa bs).2.2 ∧ Wr ab (ab + 2) W w' from number_any ab v bs 0 true W hc (dUnhide HV W hd) hne)
  have la := wtRa_le bs
  have C2 := dHide fun (W : World) (hd : Wr ab (ab + 2) w W) (hx : ∀ W', Wr ab (ab + 2) W W' → Bx W' w.heap.size [.pointer (some ⟨ab + 1, 0, none⟩)] ∧ Bx W' (w.heap.size + 1) [.slice ca ds.length cc, .int .i64 cop]) (hc : Rc W ab v (wtRa bs).2.1 (wtRa bs).2.2) => (show Calls Tryz.prog 108 #[.pointer (some ⟨ab + 1, 0, none⟩), .func (.func 109) #[] #[.pointer (some ⟨w.heap.size, 0, none⟩), .pointer (some ⟨w.heap.size + 1, 0, none⟩)]] W fun e w' => ∃ u xs, e = .returned u ∧ WAp w' W.heap.size u xs ∧ ((wtRd ds cop bs).2.2 = true → xs = (wtRd ds cop bs).1) ∧ Rc w' ab v (wtRd ds cop bs).2.1 (wtRd ds cop bs).2.2 ∧ Wr ab (ab + 2) W w' from listOfW_any ab v bs (wtRa bs).2.1 (wtRa bs).2.2 W ds cop ca cc _ _ (fun W' hW' => ⟨dUnhide HN W' (hd.trans hW'), hx W' hW'⟩) had hld c0 c1 hc (fun W' hW' => dUnhide HV W' (hd.trans hW')) hl la hne)
  have K2 : Hid ((wtRd ds cop bs).2.2 = true → (wtRa bs).2.2 = true) := fun h => rdN_was (rdWds_was h)
  have EM : Hid (wtRm ds cop bs = ⟨(wtRa bs).1, (wtRd ds cop bs).1⟩) := rfl
  generalize wtRm ds cop bs = MM at *
  generalize wtRd ds cop bs = MD at *
  generalize wtRa bs = MA at *
  have hc0 := dHide (hc.below B0.drew)
  have W0 := dHide (Wr.of_below (lo := ab) (hi := ab + 2) B0.drew)
  have k0 := (X0.2 0 _ rfl).1
  clear hc la HV HN i1 i2 B0
  go_enter Tryz.func71, Tryz.ntmps71
  go_upto_region 1 with fail
  generalize ((w.alloc (.cells #[.pointer (some ⟨ab + 1, 0, none⟩)] 95)).alloc (.cells #[.slice ca ds.length cc, .int .i64 cop] 26)).alloc (.cells #[.int .i64 0, .slice none 0 0] 40) = w0 at *
  have D1 := dHide (dUnhide C1 w0.drew (dUnhide W0) (dUnhide hc0))
  have hsd : w0.drew.heap.size = w.heap.size + 3 := hs0
  have X0d : BxZ w0.drew w.heap.size w.heap.size [.pointer (some ⟨ab + 1, 0, none⟩)] := X0
  have G0d : BxZ w0.drew w.heap.size (w.heap.size + 1) [.slice ca ds.length cc, .int .i64 cop] := G0
  have Z0d : BxZ w0.drew w.heap.size (w.heap.size + 2) [.int .i64 0, .slice none 0 0] := Z0
  clear C1 hc0 X0 G0 Z0
  go_region_held3 (fun W => W.cell? ⟨w.heap.size, 0, none⟩ = some (.pointer (some ⟨ab + 1, 0, none⟩))) (first | exact q1 | exact q3 | exact q4 | go_keep)
    (first
      | (go_at_call 92
         refine (dUnhide D1).mono ?_
         rintro e w1 ⟨x0, rfl, hb0, hx0, hc1, hw1⟩
         have X1 := X0d.wrZ hw1 hab
         have q1 := (X1.2 0 _ rfl).1
         have G1 := G0d.wrZ hw1 (by omega)
         have Z1 := Z0d.wrZ hw1 (by omega)
         have W1 := dHide ((dUnhide W0).trans hw1)
         have hs1 := hw1.size
         have HX0 := dHide hx0
         have D2 := dHide (dUnhide C2 w1 (dUnhide W1) (fun W' hW' => ⟨(X1.wrZ hW' hab).bx, (G1.wrZ hW' (by omega)).bx⟩) hc1)
         clear hx0 hc1 hw1)
      | (go_at_call 108
         refine (dUnhide D2).mono ?_
         rintro e w3 ⟨u, xs, rfl, ha, hx2, hc3, hw3⟩
         have W3 := dHide ((dUnhide W1).trans hw3)
         have X3 := X1.wrZ hw3 hab
         have q3 := (X3.2 0 _ rfl).1
         have Z3 := Z1.wrZ hw3 (by omega)
         have hs3 := hw3.size
         obtain ⟨ua, uc, rfl⟩ := WAp.slice ha
         obtain ⟨z0, f0⟩ := Z3.2 0 _ rfl
         obtain ⟨z1, f1⟩ := Z3.2 1 _ rfl
         have HX2 := dHide hx2
         have g4 : ∀ k, k ≠ w.heap.size + 2 → ((w3.setCell ⟨w.heap.size + 1 + 1, 0, none⟩ (.int .i64 x0)).setCell ⟨w.heap.size + 1 + 1, 1, none⟩ (.slice ua xs.length uc)).heap[k]? = w3.heap[k]? := fun k hk => by rw [Below.heap_setCell _ _ _ k (by simp only; omega), Below.heap_setCell _ _ _ k (by simp only; omega)]
         have s4 : ((w3.setCell ⟨w.heap.size + 1 + 1, 0, none⟩ (.int .i64 x0)).setCell ⟨w.heap.size + 1 + 1, 1, none⟩ (.slice ua xs.length uc)).heap.size = w3.heap.size := by simp
         have b4 : Below w.heap.size w3 ((w3.setCell ⟨w.heap.size + 1 + 1, 0, none⟩ (.int .i64 x0)).setCell ⟨w.heap.size + 1 + 1, 1, none⟩ (.slice ua xs.length uc)) := Below.setCell (p := ⟨w.heap.size + 1 + 1, 1, none⟩) (Below.setCell (p := ⟨w.heap.size + 1 + 1, 0, none⟩) (Below.refl _ _) (by simp only; omega) (.int .i64 x0)) (by simp only; omega) (.slice ua xs.length uc)
         have FIN : Hid (BxZ ((w3.setCell ⟨w.heap.size + 1 + 1, 0, none⟩ (.int .i64 x0)).setCell ⟨w.heap.size + 1 + 1, 1, none⟩ (.slice ua xs.length uc)) w.heap.size (w.heap.size + 2) [.int .i64 x0, .slice ua xs.length uc] ∧ WAp ((w3.setCell ⟨w.heap.size + 1 + 1, 0, none⟩ (.int .i64 x0)).setCell ⟨w.heap.size + 1 + 1, 1, none⟩ (.slice ua xs.length uc)) w.heap.size (.slice ua xs.length uc) xs ∧ Rc ((w3.setCell ⟨w.heap.size + 1 + 1, 0, none⟩ (.int .i64 x0)).setCell ⟨w.heap.size + 1 + 1, 1, none⟩ (.slice ua xs.length uc)) ab v MD.2.1 MD.2.2 ∧ Wr ab (ab + 2) w ((w3.setCell ⟨w.heap.size + 1 + 1, 0, none⟩ (.int .i64 x0)).setCell ⟨w.heap.size + 1 + 1, 1, none⟩ (.slice ua xs.length uc))) := And.intro ((Z3.put 0 (.int .i64 x0)).put 1 (.slice ua xs.length uc)) (And.intro (WAp.mono (WAp.farO _ _ _ w3 ((w3.setCell ⟨w.heap.size + 1 + 1, 0, none⟩ (.int .i64 x0)).setCell ⟨w.heap.size + 1 + 1, 1, none⟩ (.slice ua xs.length uc)) ha (by rw [s4]; exact Nat.le_refl _) (fun k h1 h2 => g4 k (by omega))) (by omega)) (And.intro (Rc.newX hc3 (by omega) g4 s4 b4) ((dUnhide W3).new (by omega) g4 s4 b4)))
         have q4 : ((w3.setCell ⟨w.heap.size + 1 + 1, 0, none⟩ (.int .i64 x0)).setCell ⟨w.heap.size + 1 + 1, 1, none⟩ (.slice ua xs.length uc)).cell? ⟨w.heap.size, 0, none⟩ = some (.pointer (some ⟨ab + 1, 0, none⟩)) := (((X3.far (b' := w.heap.size + 1 + 1) (o := 0) (by omega) (.int .i64 x0)).far (b' := w.heap.size + 1 + 1) (o := 1) (by omega) (.slice ua xs.length uc)).2 0 _ rfl).1
         clear ha hx2 hc3 hw3 g4 s4 b4 Z3)
      | fail)
  all_goals
    go_wp2_with fail
    have fin := dUnhide FIN
    generalize ((w3.setCell ⟨w.heap.size + 1 + 1, 0, none⟩ (.int .i64 x0)).setCell ⟨w.heap.size + 1 + 1, 1, none⟩ (.slice ua xs.length uc)) = V at *
    obtain ⟨r, hw, hrc, hwr⟩ := fin
    refine bodyPost_ret (results_box Tryz.results71 _ _ _ [.int .i64 x0, .slice ua xs.length uc] _ rfl r.bx Tryz.underlying40 rfl (by kernel_rfl)) rfl ⟨x0, ua, xs.length, uc, ⟨x0, xs⟩, rfl, ⟨rfl, rfl, hw⟩, fun h => ?_, hrc, hwr⟩
    have h2 := dUnhide K2 h
    rw [dUnhide EM, dUnhide HX0 h2, dUnhide HX2 h]
end Go.Proofs.YthndkkjgjhgdnaaGreatDoor
namespace Go.Proofs.YthndkkjgjhgdnaaGreatDoor
open Go.ChangeShapes Go.WideShapes Go.ChangeAt Go.RowKit
set_option linter.unusedVariables false
set_option linter.unusedSimpArgs false
set_option maxRecDepth 100000

theorem cfgNs17 {c : List Int × Int} {ca : Option Addr} {cc : Nat} {W : World} (h : RdConfig (.agg #[.slice ca c.1.length cc, .int .i64 c.2]) c W) : Ns W (.slice ca c.1.length cc) c.1 := by
  obtain ⟨sv, e, h⟩ := h
  simp only [Value.agg.injEq, Array.mk.injEq, List.cons.injEq, and_true] at e
  subst e
  exact h
set_option maxHeartbeats 4000000 in
theorem writerForm2_any (ab : Nat) (v : Value) (bs : List UInt8) (w : World) (ds : List Int) (cop : Int) (ca : Option Addr) (cc cb : Nat) (X : Bx w cb [.slice ca ds.length cc, .int .i64 cop]) (hc : Rc w ab v 0 true) (HV : ∀ W, Wr ab (ab + 2) w W → Bs W v bs) (HN : ∀ W, Wr ab (ab + 2) w W → Ns W (.slice ca ds.length cc) ds) (had : allInt ds) (hld : ds.length ≤ 1048576) (c0 : -9223372036854775808 ≤ cop) (c1 : cop ≤ 9223372036854775807) (hl : bs.length ≤ 1048576) (hne : bs = [] ∨ blockOf v ≠ ab) :
    Calls Tryz.prog 70 #[.pointer (some ⟨ab + 1, 0, none⟩), .pointer (some ⟨cb, 0, none⟩)] w fun e w' => ∃ (x : Int) (ua : Option Addr) (n c : Nat) (m : Wt), e = .returned (.agg #[.int .i64 x, .slice ua n c]) ∧ (x = m.epoch ∧ n = m.words.length ∧ WAp w' w.heap.size (.slice ua m.words.length c) m.words) ∧ ((wtRd ds cop bs).2.2 = true → m = wtRm ds cop bs) ∧ Rc w' ab v (wtRd ds cop bs).2.1 (wtRd ds cop bs).2.2 ∧ Wr ab (ab + 2) w w' := by
  have hab := hc.lt
  have b0 : Below w.heap.size w (w.alloc (.cells #[.int .i64 0, .slice none 0 0] 40)) := (Below.refl _ _).alloc (Nat.le_refl _) _
  have Z0 := BxZ.new (B := w.heap.size) w [.int .i64 0, .slice none 0 0] 40 (Nat.le_refl _)
  have W0 := Wr.of_below (lo := ab) (hi := ab + 2) b0
  have X0 := X.below b0
  have x0 := X0 0 _ rfl
  have x1 := X0 1 _ rfl
  have CW := dHide (writer_any ab v bs _ ds cop ca cc (hc.below b0) (fun W' hW' => HV W' (W0.trans hW')) (fun W' hW' => HN W' (W0.trans hW')) had hld c0 c1 hl hne)
  have hs0 : (w.alloc (.cells #[.int .i64 0, .slice none 0 0] 40)).heap.size = w.heap.size + 1 := by simp
  clear HN HV hc X X0 b0
  generalize wtRm ds cop bs = MM at *
  generalize wtRd ds cop bs = MD at *
  go_enter Tryz.func70, Tryz.ntmps70
  go_upto_region 1 with fail
  generalize w.alloc (.cells #[.int .i64 0, .slice none 0 0] 40) = w0 at *
  go_wp2_with fail
  refine (dUnhide CW).mono ?_
  rintro e w1 ⟨x, ua, n, c, m, rfl, ⟨rfl, rfl, h1⟩, hm, c2, hw1⟩
  have Z1 := Z0.wrZ hw1 hab
  have W1 := dHide (W0.trans hw1)
  have HO := dHide h1
  have HM := dHide hm
  have HC := dHide c2
  have hs1 := hw1.size
  clear CW x0 x1 h1 hm c2 hw1 W0 Z0
  go_wp2_with (refine wp_putW rfl _ _ _ rfl rfl [.int .i64 m.epoch, .slice ua m.words.length c] rfl rfl Z1 rfl (by kernel_rfl) (by kernel_rfl) ?_; intro w6 Y6 s6 g6 b6)
  refine bodyPost_ret (results_box Tryz.results70 _ _ _ [.int .i64 m.epoch, .slice ua m.words.length c] _ rfl Y6.bx Tryz.underlying40 rfl (by kernel_rfl)) rfl ⟨_, ua, _, c, m, rfl, ⟨rfl, rfl, ?_⟩, dUnhide HM, Rc.newX (dUnhide HC) (by omega) g6 s6 b6, (dUnhide W1).new (by omega) g6 s6 b6⟩
  exact WAp.mono (WAp.farO _ _ _ w1 w6 (dUnhide HO) (by rw [s6]; exact Nat.le_refl _) (fun k h1 h2 => g6 k (by omega))) (by omega)
/-- A register that is read, in new memory. -/
def OWrt (b : Nat) (m : Wt) (u : Value) (W : World) : Prop := ∃ (ua : Option Addr) (c : Nat), u = .agg #[.int .i64 m.epoch, .slice ua m.words.length c] ∧ WAp W b (.slice ua m.words.length c) m.words
theorem OWrt.far (b : Nat) (m : Wt) (u : Value) : FarO b (OWrt b m u) := fun W W' ⟨ua, c, h1, h2⟩ hs hk => ⟨ua, c, h1, WAp.farO _ _ _ W W' h2 hs hk⟩
theorem OWrt.mono (b b' : Nat) (m : Wt) (u : Value) (W : World) (h : b ≤ b') : OWrt b' m u W → OWrt b m u W := fun ⟨ua, c, h1, h2⟩ => ⟨ua, c, h1, WAp.mono h2 h⟩
theorem rdG_wrt (ds : List Int) (cop : Int) (bs : List UInt8) : RdG (wtRd ds cop bs).2.2 (wtRd ds cop bs).2.1 bs.length (wrP ds cop (wtRm ds cop bs)) ↔ (endB bs (wtRd ds cop bs).2.1 (wtRd ds cop bs).2.2 = true ∧ wrP ds cop (wtRm ds cop bs)) := by
  unfold RdG endB
  generalize (wtRd ds cop bs).2.2 = ok
  generalize (wtRd ds cop bs).2.1 = q
  cases ok <;> simp <;> omega
set_option maxHeartbeats 4000000 in
theorem implWriterRead_any (cv v : Value) (c : List Int × Int) (bs : List UInt8) (w : World) (hH : Hnd w) (hcv : RdConfig cv c w) (okc : okConfig c) (hsc : sizConfig c ≤ 1048576) (hv : Bs w v bs) (hl : bs.length ≤ 1048576) :
    Calls Tryz.prog 15 #[cv, v] w fun e w' => (∃ (a : Option Addr) (cc : Nat), e = .returned (.tuple #[.agg #[.int .i64 (wtR c.1 c.2 bs).1.epoch, .slice a (wtR c.1 c.2 bs).1.words.length cc], .bool (wtR c.1 c.2 bs).2]) ∧ WAp w' w.heap.size (.slice a (wtR c.1 c.2 bs).1.words.length cc) (wtR c.1 c.2 bs).1.words) ∧ Below w.heap.size w w' := by
  have ba : ∀ (w : World) o, Below w.heap.size w (w.alloc o) := fun w o => (Below.refl _ _).alloc (Nat.le_refl _) o
  have HV := dHide fun W (hb : Below w.heap.size w W) => hv.below hb
  have HCV := dHide fun W (hb : Below w.heap.size w W) => hcv.below hb
  have HH := dHide fun W (hb : Below w.heap.size w W) => hH.below hb (Nat.le_refl _)
  have hlt : ∀ W, Below w.heap.size w W → ∀ ab, w.heap.size ≤ ab → bs = [] ∨ blockOf v ≠ ab := fun W hb ab hab => by
    by_cases h : bs = []
    · exact .inl h
    · exact .inr (by have := hv.lt h; omega)
  obtain ⟨ca, cc, rfl, -⟩ := formConfig hcv
  have CF := dHide fun W => writerForm_any ca c.1.length cc c.2 W
  have hq4 := wtRd_le c.1 c.2 bs
  have CU : Hid (∀ W cb, Below w.heap.size w W → Bx W cb [.slice ca c.1.length cc, .int .i64 c.2] → Calls Tryz.prog 39 #[.agg (writerFormL cb).toArray, v] W fun e w' => ∃ (x : Int) (ua : Option Addr) (n c' : Nat) (b : Bool), e = .returned (.tuple #[.agg #[.int .i64 x, .slice ua n c'], .bool b]) ∧ UnPost (OWrt W.heap.size) (RdG (wtRd c.1 c.2 bs).2.2 (wtRd c.1 c.2 bs).2.1 bs.length (wrP c.1 c.2 (wtRm c.1 c.2 bs))) (wtRm c.1 c.2 bs) (.agg #[.int .i64 0, .slice none 0 0]) W (.agg #[.int .i64 x, .slice ua n c']) b w') := fun W cb hb hX => by
    have hvv : ∃ (va : Option Addr) (vn vcp : Nat), v = .slice va vn vcp := by
      obtain ⟨-, va, vcp, e, -⟩ := hv
      exact ⟨va, _, vcp, e⟩
    obtain ⟨va, vn, vcp, hvv⟩ := hvv
    refine unpackWriter cb v OWrt OWrt.far OWrt.mono _ _ W (dUnhide HH W hb) (fun W1 hb1 => ?_) va vn vcp hvv
    refine recordInWriter cb v bs OWrt OWrt.far OWrt.mono (wtRm c.1 c.2 bs) (wrP c.1 c.2) (wtRd c.1 c.2 bs).2.1 (wtRd c.1 c.2 bs).2.2 W1 (dUnhide HV W1 (belowThen hb hb1)) hl (fun _ => hq4) (fun W2 ab hb2 hab hc => ?_) (fun W2 x ua n c' hb2 hok ho => ?_)
    · refine (writerForm2_any ab v bs W2 c.1 c.2 ca cc cb ((hX.below hb1).below hb2) hc (fun W3 hw3 => dUnhide HV W3 (hw3.below (belowThen (belowThen hb hb1) hb2) (by have := (belowThen (belowThen hb hb1) hb2).size; omega) (by have := (belowThen hb hb1).size; omega))) (fun W3 hw3 => cfgNs17 (dUnhide HCV W3 (hw3.below (belowThen (belowThen hb hb1) hb2) (by have := (belowThen (belowThen hb hb1) hb2).size; omega) (by have := (belowThen hb hb1).size; omega)))) okc.1 hsc okc.2.1 okc.2.2 hl (hlt W2 (belowThen (belowThen hb hb1) hb2) ab (by have := (belowThen hb hb1).size; omega))).mono ?_
      rintro e w' ⟨x, ua, n, c', m, rfl, ⟨rfl, rfl, h1⟩, h4, h5, h6⟩
      exact ⟨_, ua, _, c', m, rfl, ⟨ua, c', rfl, h1⟩, h4, h5, h6⟩
    · obtain ⟨ua', c'', e, h1⟩ := ho
      rw [e]
      exact writerForm1_any c ca cc _ ua' c'' cb W2 (dUnhide HCV W2 (belowThen (belowThen hb hb1) hb2)) ⟨_, rfl, (WAp.ow h1).rd⟩ okc (wtRm_ok c.1 c.2 bs hl) hsc (Nat.le_trans (wtRm_siz c.1 c.2 bs hok) hl) ((hX.below hb1).below hb2)
  have EY : Hid (_ → _) := wtR_yes c.1 c.2 bs
  have EN : Hid (_ → _) := wtR_no c.1 c.2 bs
  have EG := dHide (rdG_wrt c.1 c.2 bs)
  rw [← dUnhide EG] at EY EN
  generalize RdG (wtRd c.1 c.2 bs).2.2 (wtRd c.1 c.2 bs).2.1 bs.length (wrP c.1 c.2 (wtRm c.1 c.2 bs)) = G at *
  generalize wtR c.1 c.2 bs = CR at *
  generalize wtRm c.1 c.2 bs = MM at *
  have i1 : (w.alloc (.cells #[.slice ca c.1.length cc, .int .i64 c.2] 26)).heap.size = w.heap.size + 1 := by simp
  have G0 := (Bx.new w [.slice ca c.1.length cc, .int .i64 c.2] 26).below (ba _ (.cells #[.int .i64 0, .slice none 0 0] 40))
  have Z0 := BxZ.new (w.alloc (.cells #[.slice ca c.1.length cc, .int .i64 c.2] 26)) [.int .i64 0, .slice none 0 0] 40 (B := w.heap.size) (by omega)
  rw [i1] at Z0
  have B0 := belowThen (ba w (.cells #[.slice ca c.1.length cc, .int .i64 c.2] 26)) (ba _ (.cells #[.int .i64 0, .slice none 0 0] 40))
  have hs0 : ((w.alloc (.cells #[.slice ca c.1.length cc, .int .i64 c.2] 26)).alloc (.cells #[.int .i64 0, .slice none 0 0] 40)).heap.size = w.heap.size + 2 := by simp
  clear HV HCV HH hlt hq4 hv hH ba EG hcv okc hsc i1
  go_enter Tryz.func15, Tryz.ntmps15
  go_upto_region 1 with fail
  generalize (w.alloc (.cells #[.slice ca c.1.length cc, .int .i64 c.2] 26)).alloc (.cells #[.int .i64 0, .slice none 0 0] 40) = w0 at *
  have g0 := G0 0 _ rfl
  have g1 := G0 1 _ rfl
  go_wp2_with fail
  refine (dUnhide CF _).mono ?_
  rintro e w1 ⟨cb, rfl, hX1, b1⟩
  have B1 := belowThen B0 b1
  have Z1 := Z0.below b1
  have hs1 := b1.size
  have C1 := dHide (dUnhide CU w1 cb B1 hX1)
  clear CF CU Z0 B0 b1 g0 g1 G0 hX1
  unfold writerFormL at *
  go_wp2_with fail
  refine (dUnhide C1).mono ?_
  rintro e w2 ⟨x, ua, n, c', b, rfl, hy, hn, b2⟩
  have B2 := belowThen B1 b2
  have Z2 := Z1.below b2
  obtain ⟨z0, y0⟩ := Z2.2 0 _ rfl
  obtain ⟨z1, y1⟩ := Z2.2 1 _ rfl
  have FZ := dHide (And.intro ((Z2.put 0 (.int .i64 x)).put 1 (.slice ua n c')) (Below.setCell (p := ⟨w.heap.size + 1, 1, none⟩) (Below.setCell (p := ⟨w.heap.size + 1, 0, none⟩) B2 (by simp only; omega) (.int .i64 x)) (by simp only; omega) (.slice ua n c')))
  have HY := dHide hy
  have HN := dHide hn
  clear C1 Z1 Z2 B1 B2 b2 hy hn
  go_wp2
  have fin := dUnhide FZ
  have HO : ∀ xs, WAp w2 w1.heap.size (.slice ua n c') xs → WAp ((w2.setCell ⟨w.heap.size + 1, 0, none⟩ (.int .i64 x)).setCell ⟨w.heap.size + 1, 1, none⟩ (.slice ua n c')) w.heap.size (.slice ua n c') xs := fun xs h => WAp.mono (WAp.far (WAp.far h (b := w.heap.size + 1) (o := 0) (by omega) _) (b := w.heap.size + 1) (o := 1) (by omega) _) (by omega)
  generalize (w2.setCell ⟨w.heap.size + 1, 0, none⟩ (.int .i64 x)).setCell ⟨w.heap.size + 1, 1, none⟩ (.slice ua n c') = V at *
  obtain ⟨r, bb⟩ := fin
  have q0 := (r.2 0 _ rfl).1
  have q1 := (r.2 1 _ rfl).1
  refine bodyPost_ret (v := .tuple #[.agg #[.int .i64 x, .slice ua n c'], .bool b]) (by simp [results, Tryz.results15, go_sem, q0, q1]) rfl ?_
  by_cases hG : G
  · obtain ⟨rfl, ua', c'', e, h1⟩ := dUnhide HY hG
    have eC := dUnhide EY hG
    subst eC
    simp only [Value.agg.injEq, Array.mk.injEq, List.cons.injEq, Value.slice.injEq, Value.int.injEq, true_and, and_true] at e
    obtain ⟨rfl, rfl, rfl, rfl⟩ := e
    exact ⟨⟨_, _, rfl, HO _ h1⟩, bb⟩
  · obtain ⟨rfl, e⟩ := dUnhide HN hG
    have eC := dUnhide EN hG
    subst eC
    simp only [Value.agg.injEq, Array.mk.injEq, List.cons.injEq, Value.slice.injEq, Value.int.injEq, true_and, and_true] at e
    obtain ⟨rfl, rfl, rfl, rfl⟩ := e
    exact ⟨⟨_, _, rfl, WAp.nil _ _ _⟩, bb⟩
end Go.Proofs.YthndkkjgjhgdnaaGreatDoor
namespace Go.Proofs.YthndkkjgjhgdnaaGreatDoor
open Go.ChangeShapes Go.WideShapes Go.ChangeAt Go.RowKit
set_option linter.unusedVariables false
set_option linter.unusedSimpArgs false
set_option maxRecDepth 100000

/-- Eras in memory from lo on; their lists may be shared. -/
def RdW (lo : Nat) (v : Value) (ms : List Wd) (W : World) : Prop := ∃ rs : List (Nst Wd), rs.map Nst.m = ms ∧ OwnRw 3 wdCl W lo v rs ∧ ∀ p ∈ rs, OwnN W lo (Sv Wd.acks p) p.m.acks
section
variable {lo lo' hi bk : Nat} {v : Value} {ms : List Wd} {W W' : World}
theorem RdW.rd (h : RdW lo v ms W) : RdWordS v ms W := by
  obtain ⟨rs, h1, h2, h3⟩ := h
  exact ⟨rs, h1, h2.rw, fun p hp => (h3 p hp).bs⟩
theorem RdW.of (h : WIn lo hi v ms W) : RdW lo v ms W := by
  obtain ⟨rs, h1, h2, -⟩ := h
  exact ⟨rs, h1, ApR.own elemW h2.1, h2.2.1⟩
theorem RdW.mono (h : RdW lo v ms W) (hl : lo' ≤ lo) : RdW lo' v ms W := by
  obtain ⟨rs, h1, h2, h3⟩ := h
  exact ⟨rs, h1, h2.mono hl, fun p hp => (h3 p hp).mono hl⟩
theorem RdW.below (h : RdW lo v ms W) (hb : Below W.heap.size W W') : RdW lo v ms W' := by
  obtain ⟨rs, h1, h2, h3⟩ := h
  exact ⟨rs, h1, h2.below hb, fun p hp => (h3 p hp).below hb⟩
theorem OwnRw.drawnW {rs : List (Nst Wd)} (h : OwnRw 3 wdCl W lo v rs) (hd : Drawn bk W W') (hb : bk < lo) : OwnRw 3 wdCl W' lo v rs := by
  obtain ⟨h0, a, cap, rfl, hcap, h⟩ := h
  refine ⟨h0, a, cap, rfl, hcap, ?_⟩
  rcases h with h | ⟨b, off, rfl, hl, hc⟩
  · exact .inl h
  · exact .inr ⟨b, off, rfl, hl, fun i hi j u hu => by
      obtain ⟨c1, c2⟩ := hc i hi j u hu
      exact ⟨hd.cell c1 (by omega), (hd.frozen (by omega) (dCell_lt c1)).trans c2⟩⟩
theorem RdW.drawn (h : RdW lo v ms W) (hd : Drawn bk W W') (hb : bk < lo) : RdW lo v ms W' := by
  obtain ⟨rs, h1, h2, h3⟩ := h
  exact ⟨rs, h1, h2.drawnW hd hb, fun p hp => (h3 p hp).drawn hd hb⟩
theorem OwnRw.farW {rs : List (Nst Wd)} (h : OwnRw 3 wdCl W lo v rs) {b o : Nat} (hb : b < lo) (u : Value) : OwnRw 3 wdCl (W.setCell ⟨b, o, none⟩ u) lo v rs := by
  obtain ⟨h0, a, cap, rfl, hcap, h⟩ := h
  refine ⟨h0, a, cap, rfl, hcap, ?_⟩
  rcases h with h | ⟨b', off, rfl, hl, hc⟩
  · exact .inl h
  · exact .inr ⟨b', off, rfl, hl, fun i hi j x hx => by
      obtain ⟨c1, c2⟩ := hc i hi j x hx
      exact ⟨set_other c1 (.inl (by omega)), (World.frozen?_of_block (a := ⟨b', off + i * 3 + j, none⟩) (Below.heap_setCell W ⟨b, o, none⟩ u b' (by simp only; omega))).trans c2⟩⟩
theorem RdW.far (h : RdW lo v ms W) {b o : Nat} (hb : b < lo) (u : Value) : RdW lo v ms (W.setCell ⟨b, o, none⟩ u) := by
  obtain ⟨rs, h1, h2, h3⟩ := h
  exact ⟨rs, h1, h2.farW hb u, fun p hp => (h3 p hp).far hb u⟩
end
/-- How many words a box holds. -/
def wdLen (W : World) (b : Nat) : Nat := match W.cell? ⟨b, 1, none⟩ with
  | some (.slice _ n _) => n
  | _ => 0
theorem wdLen_of {W : World} {b n c : Nat} {a : Option Addr} (h : W.cell? ⟨b, 1, none⟩ = some (.slice a n c)) : wdLen W b = n := by unfold wdLen; rw [h]
theorem OwnN.setNe {w : World} {lo b o : Nat} {v : Value} {xs : List Int} (h : OwnN w lo v xs) (hb : xs = [] ∨ blockOf v ≠ b) (u : Value) : OwnN (w.setCell ⟨b, o, none⟩ u) lo v xs :=
  h.grown (grown_set w b o u) (by rcases hb with h | h; exact .inl h; exact .inr fun e => h (Option.some.inj e).symm)
structure DE8 (w : World) (bk rb lo : Nat) (W : World) (p : Nst Wd) (ms : List Wd) (tr : Int) (a : Option Addr) (c : Nat) : Prop where
  cur : Cur W bk
  drawn : Drawn bk w W
  res : BxZ W w.heap.size (w.heap.size + 1) [.int .i64 0, .slice none 0 0]
  box : BxZ W 0 rb [.int .i64 tr, .slice a ms.length c]
  row : ∃ rs : List (Nst Wd), rs.map Nst.m = ms ∧ ApR 82 3 wdCl W lo (.slice a ms.length c) rs ∧ ∀ q ∈ rs, OwnN W lo (Sv Wd.acks q) q.m.acks ∧ (q.m.acks = [] ∨ (touch (.slice a ms.length c) ≠ some (blockOf (Sv Wd.acks q)) ∧ blockOf (Sv Wd.acks q) ≠ rb))
  set : OwnN W lo (Sv Wd.acks p) p.m.acks ∧ (p.m.acks = [] ∨ (touch (.slice a ms.length c) ≠ some (blockOf (Sv Wd.acks p)) ∧ blockOf (Sv Wd.acks p) ≠ rb))
  away : touch (.slice a ms.length c) ≠ some rb
variable {w W W' : World} {bk rb lo : Nat} {p : Nst Wd} {ms : List Wd} {tr : Int} {a : Option Addr} {c : Nat}
theorem DE8.below (h : DE8 w bk rb lo W p ms tr a c) (hb : Below W.heap.size W W') : DE8 w bk rb lo W' p ms tr a c := by
  obtain ⟨rs, h1, h2, h3⟩ := h.row
  exact ⟨h.cur.below hb, h.drawn.trans (Drawn.of_below hb), h.res.below hb, h.box.below hb, ⟨rs, h1, h2.below hb, fun q hq => ⟨(h3 q hq).1.below hb, (h3 q hq).2⟩⟩, ⟨h.set.1.below hb, h.set.2⟩, h.away⟩
theorem DE8.move (h : DE8 w bk rb lo W p ms tr a c) (hk : bk < w.heap.size) (h1 : bk < lo) (h2 : rb ≠ bk) (hc : Cur W' bk) (hd : Drawn bk W W') : DE8 w bk rb lo W' p ms tr a c := by
  obtain ⟨rs, r1, r2, r3⟩ := h.row
  exact ⟨hc, h.drawn.trans hd, h.res.drawn hd (by omega), h.box.drawn hd h2, ⟨rs, r1, r2.kept elemW hd.row (.inr fun e => by have := (r2.touched elemW e).1; omega), fun q hq => ⟨(r3 q hq).1.drawn hd h1, (r3 q hq).2⟩⟩, ⟨h.set.1.drawn hd h1, h.set.2⟩, h.away⟩
theorem DE8.rd (h : DE8 w bk rb lo W p ms tr a c) : RdW lo (.slice a ms.length c) ms W := by
  obtain ⟨rs, r1, r2, r3⟩ := h.row
  exact ⟨rs, r1, r2.own elemW, fun q hq => (r3 q hq).1⟩
/-- One more era. -/
theorem DE8.push (h : DE8 w bk rb lo W p ms tr a c) (hk : bk < w.heap.size) (hl : w.heap.size + 1 < lo) (hr0 : w.heap.size + 1 < rb) (hlo : lo ≤ W.heap.size) (ty : TypeId) (sv : Value) (hs : Rw 3 wdCl W sv [p]) (hn : ms.length ≤ 1000) :
    ∃ a' c' w', (Builtin.append_ #[38, 38] ty #[.slice a ms.length c, sv]).run Tryz.prog W = .ok (.slice a' (ms.length + 1) c') w' ∧ BxZ w' 0 rb [.int .i64 tr, .slice a ms.length c] ∧ DE8 w bk rb lo (w'.setCell ⟨rb, 1, none⟩ (.slice a' (ms.length + 1) c')) p (ms ++ [p.m]) tr a' c' := by
  obtain ⟨rs, r1, r2, r3⟩ := h.row
  have hrl : rs.length = ms.length := by rw [← r1, List.length_map]
  have hrb : rb < W.heap.size := dCell_lt (h.box.2 0 _ rfl).1
  obtain ⟨v', w', hr, P7, g7, t7⟩ := run_apR elemW ty r2 sv hs (by simp; omega) (by simp; omega) hlo
  obtain ⟨a', c', rfl⟩ := ApR.slice elemW P7
  have hln : (rs ++ [p]).length = ms.length + 1 := by simp [hrl]
  rw [hln] at hr P7 t7
  have tb : ∀ j, touch (.slice a ms.length c) = some j → lo ≤ j := fun j hj => (r2.touched elemW hj).1
  have N7 := h.box.grown g7 h.away
  have R7 := h.res.grown g7 (fun e => by have := tb _ e; omega)
  have C7 := h.cur.grown g7 (fun k hk' => by have := tb k hk'; omega)
  have Dw7 := h.drawn.grown g7 (fun k hk' => by have := tb k hk'; omega)
  have T7 : touch (.slice a' (ms.length + 1) c') ≠ some rb := fun e => by
    rcases t7 with h' | h'
    · exact h.away (h' ▸ e)
    · have := h' rb e; omega
  -- a list that stays
  have K : ∀ q : Nst Wd, OwnN W lo (Sv Wd.acks q) q.m.acks ∧ (q.m.acks = [] ∨ (touch (.slice a ms.length c) ≠ some (blockOf (Sv Wd.acks q)) ∧ blockOf (Sv Wd.acks q) ≠ rb)) →
      OwnN (w'.setCell ⟨rb, 1, none⟩ (.slice a' (ms.length + 1) c')) lo (Sv Wd.acks q) q.m.acks ∧ (q.m.acks = [] ∨ (touch (.slice a' (ms.length + 1) c') ≠ some (blockOf (Sv Wd.acks q)) ∧ blockOf (Sv Wd.acks q) ≠ rb)) := by
    intro q ⟨q1, q2⟩
    have hlt := q1.bs.lt
    refine ⟨(q1.grown g7 (by rcases q2 with h | h; exact .inl h; exact .inr h.1)).setNe (by rcases q2 with h | h; exact .inl h; exact .inr h.2) _, ?_⟩
    rcases q2 with h | h
    · exact .inl h
    · rcases hlt with h' | h'
      · exact .inl h'
      · refine .inr ⟨fun e => ?_, h.2⟩
        rcases t7 with h'' | h''
        · exact h.1 (h'' ▸ e)
        · have := h'' _ e; omega
  refine ⟨a', c', w', hr, N7, ?_⟩
  have el : (ms ++ [p.m]).length = ms.length + 1 := by simp
  have B8 := N7.put 1 (.slice a' (ms.length + 1) c')
  refine ⟨C7.setNew4 (by omega) _ _, Dw7.setNew (by omega) _ _, R7.far (by omega) _, by rw [el]; exact B8, ⟨rs ++ [p], by rw [List.map_append, r1]; rfl, by rw [el]; exact ApR.put elemW P7 T7 _, fun q hq => ?_⟩, by rw [el]; exact K p h.set, by rw [el]; exact T7⟩
  rw [el]
  rcases List.mem_append.1 hq with hq | hq
  · exact K q (r3 q hq)
  · obtain rfl : q = p := by simpa using hq
    exact K q h.set
end Go.Proofs.YthndkkjgjhgdnaaGreatDoor
namespace Go.Proofs.YthndkkjgjhgdnaaGreatDoor
open Go.ChangeShapes Go.WideShapes Go.ChangeAt Go.RowKit
set_option linter.unusedVariables false

/-- New bytes 0, and the text of them. -/
theorem zeros_new (w : World) (n : Nat) (hn : n ≤ 1000) : ∃ (W : World) (S : ByteArray), (Instr.makeSlice 22 (.int .i64 (n : Int)) (.int .i64 (n : Int))).run Tryz.prog w = .ok (.slice (some ⟨w.heap.size, 0, none⟩) n n) W ∧
    (convert 22 9 (.slice (some ⟨w.heap.size, 0, none⟩) n n)).run Tryz.prog W = .ok (.string S) W ∧ S.size = n ∧ Below w.heap.size w W := by
  obtain ⟨i0, hi, hz0, hz1, hz2⟩ := info_parts info8a
  obtain ⟨W, hmk, hown, hg⟩ := run_makeSlice_full (P := Tryz.prog) w w.heap.size 22 5 i0 (.int .u8 0) 1 Tryz.underlying22 hi hz0 hz1 .i64 .i64 n (by omega) (by rw [hz2]; omega) (by unfold maxLen; omega) (Nat.le_refl _)
  have e : (madeCells (Value.int .u8 0).cells (n * 1)).toList = bcells (List.replicate n 0) := by
    show (madeCells #[Value.int .u8 0] (n * 1)).toList = _
    rw [toList_madeCells_one, Nat.mul_one]
    simp [bcells]
  rw [e] at hown
  have ho := ownB_of_row hown
  obtain ⟨h0, a, cap, hs, hcap, h⟩ := ho
  injection hs with h1 h2 h3
  have hl : (List.replicate n (0 : UInt8)).length = n := by simp
  refine ⟨W, ⟨(List.replicate n (0 : UInt8)).toArray⟩, hmk, ?_, by show (List.replicate n (0 : UInt8)).toArray.size = n; simp, (Below.refl _ _).grown hg (Nat.le_refl _) (fun k hk => by cases hk)⟩
  rcases h with h | ⟨b, off, h, hb, hc⟩
  · obtain rfl : n = 0 := by rw [← hl, h]; rfl
    exact conv_none w.heap.size 0 0
  · rw [← h1] at h
    cases h
    have hcut := conv_cut (w := W) (b := w.heap.size) (off := 0) (p := 0) (n := n) (cap := n) (bs := List.replicate n (0 : UInt8)) (fun i hi => (hc i hi).1) (by simp)
    have et : ((List.replicate n (0 : UInt8)).drop 0).take n = List.replicate n 0 := by rw [List.drop_zero, List.take_of_length_le (by simp)]
    rw [et] at hcut
    exact hcut
theorem op_appRun {w w' : World} {o : Oper} {a : Act} {Q : Exit → Act → World → Prop} {K : Act → World → Prop} (s x : Operand) (T1 T2 : TypeId) (hop : o.op = .call { callee := .builtin .append, args := #[s, x], argTypes := #[T1, T2] })
    (v u : Value) (hs : a.eval s = v) (hx : a.eval x = u) {v' : Value} (hr : (Builtin.append_ #[T1, T2] o.type #[v, u]).run Tryz.prog w = .ok v' w') (h : K (a.put o.dst v') w') : Oper.wp Tryz.prog o a w K Q := by
  unfold Oper.wp
  simp [execOp, hop, resolve, invoke, builtin, hs, hx, hr, Result.andThen]
  exact h
theorem DE8.with_ {w W : World} {bk rb lo : Nat} {p q : Nst Wd} {ms : List Wd} {tr : Int} {a : Option Addr} {c : Nat} (h : DE8 w bk rb lo W p ms tr a c) (hq : OwnN W lo (Sv Wd.acks q) q.m.acks ∧ (q.m.acks = [] ∨ (touch (.slice a ms.length c) ≠ some (blockOf (Sv Wd.acks q)) ∧ blockOf (Sv Wd.acks q) ≠ rb))) : DE8 w bk rb lo W q ms tr a c :=
  ⟨h.cur, h.drawn, h.res, h.box, h.row, hq, h.away⟩
/-- The first word. -/
theorem DE8.first {w W : World} {bk rb lo : Nat} {p : Nst Wd} {ms : List Wd} {tr : Int} {a : Option Addr} {c : Nat} (h : DE8 w bk rb lo W p ms tr a c) (h0 : 0 < ms.length) : ∃ g q, a = some ⟨g, 0, none⟩ ∧ DE8 w bk rb lo W q ms tr a c ∧ q.m = ms[0] ∧ W.cell? ⟨g, 0, none⟩ = some (.string q.m.data) ∧ W.cell? ⟨g, 1, none⟩ = some (.slice q.a q.m.acks.length q.c) ∧ W.cell? ⟨g, 2, none⟩ = some (.bool q.m.done) := by
  obtain ⟨rs, r1, r2, r3⟩ := h.row
  have hrl : rs.length = ms.length := by rw [← r1, List.length_map]
  have hk : 0 < rs.length := by omega
  have em : rs[0].m = ms[0] := by subst r1; simp
  rcases r2 with ⟨h', -⟩ | h'
  · subst h'; simp at hk
  · have h2 : ApR 82 3 wdCl W lo (.slice a ms.length c) rs := .inr h'
    rcases h'.2 with ⟨-, h00⟩ | ⟨g, cap, cur, e, -⟩
    · omega
    · simp only [Value.slice.injEq] at e
      obtain ⟨rfl, -, rfl⟩ := e
      obtain ⟨-, a', c', e', -, hc⟩ := ApR.own elemW h2
      simp only [Value.slice.injEq] at e'
      obtain ⟨b, off, ea, -, hce⟩ := orR_of_lt hc hk
      have eb : (⟨b, off, none⟩ : Addr) = ⟨g, 0, none⟩ := by have := e'.1; rw [ea] at this; exact (Option.some.inj this).symm
      cases eb
      have q0 := hce 0 hk 0 _ rfl
      have q1 := hce 0 hk 1 _ rfl
      have q2 := hce 0 hk 2 _ rfl
      simp only [Nat.zero_add, Nat.zero_mul, Nat.add_zero, Sv] at q0 q1 q2
      exact ⟨g, rs[0], rfl, h.with_ (r3 _ (List.getElem_mem hk)), em, q0.1, q1.1, q2.1⟩
end Go.Proofs.YthndkkjgjhgdnaaGreatDoor
