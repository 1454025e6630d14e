/- impl's: turn. -/
import Derived.Test.YtfipenjojgflmaaDoorImGe
import Derived.Deep.RegionHeld3
import Derived.Deep.DeepCutAuto
namespace Go.Proofs.YtfipenjojgflmaaDoor
open Go.ChangeShapes Go.WideShapes Go.ChangeAt Go.RowKit
set_option linter.unusedVariables false
set_option linter.unusedSimpArgs false
set_option maxRecDepth 100000

/-- The block of a cell that points to the register's block rb. -/
def CellAt (w : World) (cb rb : Nat) : Prop := ∃ T, w.heap[cb]? = some (.cells #[.pointer (some ⟨rb, 0, none⟩)] T (0, 0))
theorem CellAt.lt {w : World} {cb rb : Nat} (h : CellAt w cb rb) : cb < w.heap.size := by
  obtain ⟨T, h⟩ := h
  exact (Array.getElem?_eq_some_iff.1 h).1
theorem CellAt.cell {w : World} {cb rb : Nat} (h : CellAt w cb rb) : w.cell? ⟨cb, 0, none⟩ = some (.pointer (some ⟨rb, 0, none⟩)) := by
  obtain ⟨T, h⟩ := h
  simp [World.cell?, h]
theorem CellAt.below {w w' : World} {cb rb B : Nat} (h : CellAt w cb rb) (hb : Below B w w') (hB : cb < B) : CellAt w' cb rb := by
  obtain ⟨T, h⟩ := h
  exact ⟨T, (hb.block cb hB).trans h⟩
theorem CellAt.set {w : World} {cb rb : Nat} (h : CellAt w cb rb) (nb : Nat) : CellAt (w.setCell ⟨cb, 0, none⟩ (.pointer (some ⟨nb, 0, none⟩))) cb nb := by
  obtain ⟨T, h⟩ := h
  refine ⟨T, ?_⟩
  have := heap_setCell_same w cb 0 _ T (.pointer (some ⟨nb, 0, none⟩)) h
  rw [this]
  rfl
/-- What a change is, in a register that is right. -/
def Chg (w : World) (F : Nat) (caps : Array Value) (m : Rg) (a1 : Addr) (res : Option Rg) : Prop :=
  ∀ W lo b u, Below w.heap.size w W → w.heap.size ≤ lo → lo ≤ W.heap.size → CpyAt W lo b u m → Shp W b →
    Calls Tryd.prog F (#[.pointer (some ⟨b, 0, none⟩)] ++ caps) W fun e w' => ChgEnd a1 lo b res e w' ∧ Below lo W w'
/-- What turn answers, and leaves. -/
def TurnEnd (w : World) (cb : Nat) (a1 : Addr) (res : Option Rg) (e : Ending) (w' : World) : Prop :=
  match res with
  | none => e = .returned (.iface 127 (.pointer (some a1))) ∧ Below w.heap.size w w'
  | some m' => e = .returned .nilIface ∧ Drawn cb w w' ∧ ∃ nb lo, w.heap.size ≤ lo ∧ CellAt w' cb nb ∧ ChgTo w' lo nb m'
set_option maxHeartbeats 8000000 in
theorem turn_bad (w : World) (cb rb F : Nat) (caps : Array Value) (cv v : Value) (c : List Int × Int) (m : Rg) (a0 a1 : Addr) (hC : CellAt w cb rb) (hc : RdConfig cv c w) (hR : ∃ sv, v = .agg #[sv, .int .i64 m.trim] ∧ Bx w rb [sv, .int .i64 m.trim]) (hSh : Shp w rb) (hv : RdRegister v m w) (okc : okConfig c) (ok : okRegister m) (hsc : sizConfig c ≤ 1048576) (hs : sizRegister m ≤ 1048576) (hS : Snt w a0 a1) (hP : ¬ regP c.1 c.2 m) :
    Calls Tryd.prog 55 #[.pointer (some ⟨cb, 0, none⟩), cv, .func (.func F) #[] caps] w fun e w' => e = .returned (.iface 127 (.pointer (some a0))) ∧ Below w.heap.size w w' := by
  obtain ⟨ds, cop⟩ := c
  obtain ⟨sv, rfl, hR⟩ := hR
  have CO := dHide fun W (hb : Below w.heap.size w W) => retB_no (implRegOk_any cv _ (ds, cop) m W (hc.below hb) (hv.below hb) okc ok hsc hs) hP
  obtain ⟨sc, rfl, hc⟩ := hc
  obtain ⟨-, ca, cc, rfl, -, -⟩ := hc
  obtain ⟨a, cap, e0, -⟩ := formRegister hv
  cases e0
  simp only at *
  have ba : ∀ (w : World) o, Below w.heap.size w (w.alloc o) := fun w o => (Below.refl _ _).alloc (Nat.le_refl _) o
  have bA := ba w (.cells #[.slice ca ds.length cc, .int .i64 cop] 26)
  have X0 := Bx.new w [.slice ca ds.length cc, .int .i64 cop] 26
  have C0 := hC.below bA hC.lt
  have CL := dHide (atLoad _ cb rb C0.cell (hSh.below bA))
  have R0 := hR.below bA
  have HS := dHide fun W (hb : Below w.heap.size w W) => (hS.below hb (Nat.le_refl _)).1
  clear hC hR hSh hv hS hP C0
  go_enter Tryd.func55, Tryd.ntmps55
  go_wp2_with fail
  generalize w.alloc (.cells #[.slice ca ds.length cc, .int .i64 cop] 26) = w0 at *
  refine (dUnhide CL).mono ?_
  rintro e w1 ⟨rfl, rfl⟩
  have x0 := X0 0 _ rfl
  have x1 := X0 1 _ rfl
  have r0 := R0 0 _ rfl
  have r1 := R0 1 _ rfl
  have HX := dHide X0
  have HR := dHide R0
  have hbr := Below.refl w1.heap.size w1
  clear X0 R0 CL
  go_wp2_with fail
  go_cut [19] (fun sv wx => sv = .bool true ∧ Below w1.heap.size w1 wx)
  case first =>
    go_region_held3 (fun W => (W.cell? ⟨w.heap.size, 0, none⟩ = some (.slice ca ds.length cc) ∧ W.cell? ⟨w.heap.size, 1, none⟩ = some (.int .i64 cop)) ∧ W.cell? ⟨rb, 0, none⟩ = some (.slice a m.eras.length cap) ∧ W.cell? ⟨rb, 1, none⟩ = some (.int .i64 m.trim)) (go_keep)
      (first
        | (go_at_call 12; refine (dUnhide CO _ (belowThen bA hbr.drew)).mono ?_; rintro e w2 ⟨rfl, b2⟩; have hb2 := belowThen hbr.drew b2; have q0 := (dUnhide HX).below hb2 0 _ rfl; have q1 := (dUnhide HX).below hb2 1 _ rfl; have q2 := (dUnhide HR).below hb2 0 _ rfl; have q3 := (dUnhide HR).below hb2 1 _ rfl))
    all_goals
      go_wp2_with fail
      go_meet
      case rel => exact ⟨rfl, hb2⟩
  case rest =>
    obtain ⟨rfl, bc⟩ := hcut
    have B2 := belowThen bA bc
    have g0 := dUnhide HS _ B2
    clear x0 x1 r0 r1 hbr bc CO
    go_wp2
    go_ret
    exact ⟨rfl, B2⟩
set_option maxHeartbeats 8000000 in
theorem turn_ok (w : World) (cb rb F : Nat) (caps : Array Value) (cv v : Value) (c : List Int × Int) (m : Rg) (a0 a1 : Addr) (res : Option Rg) (hF : ∀ args w, (callFunc F args).run Tryd.prog w = .ok (.enter F args) w) (hC : CellAt w cb rb) (hc : RdConfig cv c w) (hR : ∃ sv, v = .agg #[sv, .int .i64 m.trim] ∧ Bx w rb [sv, .int .i64 m.trim]) (hSh : Shp w rb) (hv : RdRegister v m w) (okc : okConfig c) (ok : okRegister m) (hsc : sizConfig c ≤ 1048576) (hs : sizRegister m ≤ 1048576) (hS : Snt w a0 a1) (hP : regP c.1 c.2 m) (hG : Chg w F caps m a1 res) :
    Calls Tryd.prog 55 #[.pointer (some ⟨cb, 0, none⟩), cv, .func (.func F) #[] caps] w fun e w' => TurnEnd w cb a1 res e w' := by
  obtain ⟨ds, cop⟩ := c
  obtain ⟨sv, rfl, hR⟩ := hR
  have CO := dHide fun W (hb : Below w.heap.size w W) => retB_yes (implRegOk_any cv _ (ds, cop) m W (hc.below hb) (hv.below hb) okc ok hsc hs) hP
  have CP := dHide fun W (hb : Below w.heap.size w W) => copied_any _ m W (hv.below hb) hs
  have HG := dHide hG
  obtain ⟨sc, rfl, hc⟩ := hc
  obtain ⟨-, ca, cc, rfl, -, -⟩ := hc
  obtain ⟨a, cap, e0, -⟩ := formRegister hv
  cases e0
  simp only at *
  have ba : ∀ (w : World) o, Below w.heap.size w (w.alloc o) := fun w o => (Below.refl _ _).alloc (Nat.le_refl _) o
  have bA := ba w (.cells #[.slice ca ds.length cc, .int .i64 cop] 26)
  have X0 := Bx.new w [.slice ca ds.length cc, .int .i64 cop] 26
  have C0 := hC.below bA hC.lt
  have CL := dHide (atLoad _ cb rb C0.cell (hSh.below bA))
  have R0 := hR.below bA
  have HC := dHide hC
  have HSh := dHide hSh
  have hclt := hC.lt
  clear hC hR hSh hv hS hP C0 hG
  go_enter Tryd.func55, Tryd.ntmps55
  go_wp2_with fail
  generalize w.alloc (.cells #[.slice ca ds.length cc, .int .i64 cop] 26) = w0 at *
  refine (dUnhide CL).mono ?_
  rintro e w1 ⟨rfl, rfl⟩
  have x0 := X0 0 _ rfl
  have x1 := X0 1 _ rfl
  have r0 := R0 0 _ rfl
  have r1 := R0 1 _ rfl
  have HX := dHide X0
  have HR := dHide R0
  have hbr := Below.refl w1.heap.size w1
  clear X0 R0 CL
  go_wp2_with fail
  go_cut [19] (fun sv wx => sv = .bool false ∧ Below w1.heap.size w1 wx)
  case first =>
    go_region_held3 (fun W => (W.cell? ⟨w.heap.size, 0, none⟩ = some (.slice ca ds.length cc) ∧ W.cell? ⟨w.heap.size, 1, none⟩ = some (.int .i64 cop)) ∧ W.cell? ⟨rb, 0, none⟩ = some (.slice a m.eras.length cap) ∧ W.cell? ⟨rb, 1, none⟩ = some (.int .i64 m.trim)) (go_keep)
      (first
        | (go_at_call 12; refine (dUnhide CO _ (belowThen bA hbr.drew)).mono ?_; rintro e w2 ⟨rfl, b2⟩; have hb2 := belowThen hbr.drew b2; have q0 := (dUnhide HX).below hb2 0 _ rfl; have q1 := (dUnhide HX).below hb2 1 _ rfl; have q2 := (dUnhide HR).below hb2 0 _ rfl; have q3 := (dUnhide HR).below hb2 1 _ rfl))
    all_goals
      go_wp2_with fail
      go_meet
      case rel => exact ⟨rfl, hb2⟩
  case rest =>
    obtain ⟨rfl, bc⟩ := hcut
    generalize wc = w2 at *
    have B2 := belowThen bA bc
    have q2 := (dUnhide HR).below bc 0 _ rfl
    have q3 := (dUnhide HR).below bc 1 _ rfl
    clear x0 x1 r0 r1 hbr CO
    go_wp2_with fail
    refine (dUnhide CP _ B2).mono ?_
    rintro e w3 ⟨⟨u3, rfl, N3⟩, b3⟩
    have B3 := belowThen B2 b3
    have s3 := b3.size
    have s2 := B2.size
    obtain ⟨ua, uc, rfl⟩ := N3.slice
    have K4 := CpyAt.new (m := m) N3 29 b3.size
    have S4 := Shp.new w3 (.slice ua m.eras.length uc) (.int .i64 m.trim)
    have b4 := ba w3 (.cells #[.slice ua m.eras.length uc, .int .i64 m.trim] 29)
    have B4 := belowThen B3 b4
    have CG := dHide (dUnhide HG _ w2.heap.size w3.heap.size _ B4 s2 (by simp; omega) K4 S4)
    have C4 := dHide ((dUnhide HC).below B4 hclt)
    have R4 := dHide ((dUnhide HSh).below B4)
    have hrl := (dUnhide HSh).lt
    clear CP b3 q2 q3 N3 K4 S4 b4 bc HX HR HC HSh B2 B3 HG
    go_wp2_with fail
    generalize w3.alloc (.cells #[.slice ua m.eras.length uc, .int .i64 m.trim] 29) = w4 at *
    refine (dUnhide CG).mono ?_
    rintro e w5 ⟨hE, b5⟩
    have B5 : Below w.heap.size w w5 := B4.trans ⟨b5.os, b5.tape, b5.output, b5.size, fun k hk => b5.block k (by omega)⟩
    cases res with
    | none =>
      have hE' : e = .returned (.iface 127 (.pointer (some a1))) := hE
      subst hE'
      clear CG C4 R4 b5 B4
      go_wp2
      go_ret
      exact ⟨rfl, B5⟩
    | some m' =>
      obtain ⟨rfl, hT⟩ := hE
      have C5 := (dUnhide C4).below b5 (by omega)
      have R5 : Shp w5 rb := (dUnhide R4).of_block (b5.block rb (by omega))
      obtain ⟨ta, tc, t1, t2, t3⟩ := hT
      obtain ⟨T, hT5⟩ := C5
      have CC := dHide (atCas w5 cb rb w3.heap.size T _ hT5 (by simp [World.cell?, hT5]) R5 t3)
      have FIN : Hid (Drawn cb w (w5.setCell ⟨cb, 0, none⟩ (.pointer (some ⟨w3.heap.size, 0, none⟩))) ∧ ∃ nb lo, w.heap.size ≤ lo ∧ CellAt (w5.setCell ⟨cb, 0, none⟩ (.pointer (some ⟨w3.heap.size, 0, none⟩))) cb nb ∧ ChgTo (w5.setCell ⟨cb, 0, none⟩ (.pointer (some ⟨w3.heap.size, 0, none⟩))) lo nb m') := by
        refine ⟨⟨B5.os, B5.tape, B5.output, by rw [World.size_setCell]; exact B5.size, fun k hk hne => (Below.heap_setCell _ _ _ k (fun e => hne (by simpa using e))).trans (B5.block k hk)⟩, w3.heap.size, w2.heap.size, s2, CellAt.set ⟨T, hT5⟩ _, ta, tc, t1.far (by omega) _, OwK.wide (OwK.far t2 (by omega) _) (Nat.le_refl _) (by rw [World.size_setCell]; exact Nat.le_refl _), t3.set _⟩
      clear CG C4 R4 b5 B4 hT5 t1 t2 t3 R5
      go_wp2_with fail
      refine (dUnhide CC).mono ?_
      rintro e w6 ⟨rfl, rfl⟩
      go_wp2
      go_ret
      exact ⟨rfl, dUnhide FIN⟩
end Go.Proofs.YtfipenjojgflmaaDoor
