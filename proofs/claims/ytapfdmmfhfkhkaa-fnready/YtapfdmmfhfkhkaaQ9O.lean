/- MendOk, MendReady: both answers. -/
import Derived.Test.YtapfdmmfhfkhkaaMnB
import Derived.Test.YtapfdmmfhfkhkaaMnG
namespace Go.Proofs.Ytapfdmmfhfkhkaa
open Go.ChangeShapes Go.WideShapes Go.ChangeAt Go.RowKit
set_option linter.unusedVariables false
set_option linter.unusedSimpArgs false
set_option maxRecDepth 100000

theorem mn_at (ds : List Int) (cop : Int) (m : Mn) : mnP ds cop m ↔ atP ds cop m (if m.planned then 1 else 0) := by
 have hw : (∀ i (h : i < m.wrote.length), nodesP ds cop m.wrote[i]) ↔ ∀ l ∈ m.wrote, nodesP ds cop l := ⟨fun h l hl => by obtain ⟨i, hi, rfl⟩ := List.getElem_of_mem hl; exact h i hi, fun h i hi => h _ (List.getElem_mem hi)⟩
 unfold mnP mnH wroteP atP
 rw [hw]
 cases hp : m.planned with
 | true =>
  simp only [if_pos]
  constructor
  ·rintro ⟨⟨h1, h2, h3, h4, h5⟩, h6, h7, h8⟩
   exact ⟨by omega, by simp, by simpa using h8, ⟨h2, h3⟩, ⟨h4, h7⟩, h6, h5⟩
  ·rintro ⟨-, -, h8, ⟨h2, h3⟩, ⟨h4, h7⟩, h6, h5⟩
   exact ⟨⟨h4.1, h2, h3, h4, h5⟩, h6, h7, by simpa using h8⟩
 | false =>
  constructor
  ·rintro ⟨⟨h1, h2, h3, h4, h5⟩, h6, h7, h8⟩
   exact ⟨by intro h; simp at h, by intro h; simp at h, by simpa using h8, ⟨h2, h3⟩, ⟨h4, h7⟩, h6, h5⟩
  ·rintro ⟨-, -, h8, ⟨h2, h3⟩, ⟨h4, h7⟩, h6, h5⟩
   exact ⟨⟨h4.1, h2, h3, h4, h5⟩, h6, h7, by simpa using h8⟩
def rdyP (ds : List Int) (cop : Int) (m : Mn) : Prop := mnP ds cop m ∧ m.planned = true ∧ ∀ l ∈ m.wrote, holdsP ds cop l
theorem rdy_at (ds : List Int) (cop : Int) (m : Mn) : rdyP ds cop m ↔ atP ds cop m 2 := by
 unfold rdyP
 rw [mn_at]
 constructor
 ·rintro ⟨h1, h2, h3⟩
  rw [if_pos h2] at h1
  obtain ⟨-, -, h8, h⟩ := h1
  exact ⟨fun _ => h3, fun _ => h2, by simpa using h8, h⟩
 ·rintro ⟨h3, h2, h8, h⟩
  have hp := h2 (by omega)
  refine ⟨?_, hp, h3 rfl⟩
  rw [if_pos hp]
  exact ⟨fun h => by omega, fun _ => hp, by simpa using h8, h⟩
set_option maxHeartbeats 4000000 in
theorem implMendOk_any (cv v : Value) (c : List Int × Int) (m : Mn) (w : World) (hc : RdConfig cv c w) (hv : RdMend v m w) (okc : okConfig c) (ok : okMend m) (hsc : sizConfig c ≤ 1048576) (hs : sizMend m ≤ 1048576) :
  Calls Try.prog 10 #[cv, v] w fun e w' => RetB (mnP c.1 c.2 m) e ∧ Below w.heap.size w w' := by
 have ba : ∀ (w : World) o, Below w.heap.size w (w.alloc o) := fun w o => (Below.refl _ _).alloc (Nat.le_refl _) o
 have CS := dHide fun W (hb : Below w.heap.size w W) => implStep_any v m W (hv.below hb)
 have CA : Hid (∀ W, Below w.heap.size w W → Calls Try.prog 26 #[v, cv, .int .i64 (if m.planned then 1 else 0)] W fun e w' => RetB (mnP c.1 c.2 m) e ∧ Below W.heap.size W w') := fun W hb => by
  rw [mn_at]
  cases hp : m.planned with
  | true => exact implAt1_any cv v c m W (hc.below hb) (hv.below hb) okc ok hsc (smlM_of hs)
  | false => exact implAt0_any cv v c m W (hc.below hb) (hv.below hb) okc ok hsc (smlM_of hs)
 obtain ⟨ds, cop⟩ := c
 obtain ⟨ca, cc, rfl, -⟩ := formConfig hc
 obtain ⟨sa, sc, ea, ec, wa, wc, rfl, hl1, hl2, hl3⟩ := formMend hv
 simp only at *
 generalize mnP ds cop m = P at *
 generalize (if m.planned = true then (1 : Int) else 0) = sp at *
 generalize m.bye = f0 at *
 generalize m.epoch = f1 at *
 generalize m.planned = f4 at *
 generalize m.sealed.length = l2 at *
 generalize m.seen.length = l3 at *
 generalize m.wrote.length = l5 at *
 clear hc hv okc ok hs
 have bA := belowThen (ba w (.cells #[.slice ca ds.length cc, .int .i64 cop] 26)) (ba _ (.cells #[.int .i64 f0, .int .i64 f1, .slice sa l2 sc, .slice ea l3 ec, .bool f4, .slice wa l5 wc] 30))
 have X0 := (Bx.new w [.slice ca ds.length cc, .int .i64 cop] 26).below (ba _ (.cells #[.int .i64 f0, .int .i64 f1, .slice sa l2 sc, .slice ea l3 ec, .bool f4, .slice wa l5 wc] 30))
 have Y0 := Bx.new (w.alloc (.cells #[.slice ca ds.length cc, .int .i64 cop] 26)) [.int .i64 f0, .int .i64 f1, .slice sa l2 sc, .slice ea l3 ec, .bool f4, .slice wa l5 wc] 30
 have e1 : (w.alloc (.cells #[.slice ca ds.length cc, .int .i64 cop] 26)).heap.size = w.heap.size + 1 := by simp
 rw [e1] at Y0
 clear e1
 go_enter Try.func10, Try.ntmps10
 go_wp2_with fail
 generalize (w.alloc (.cells #[.slice ca ds.length cc, .int .i64 cop] 26)).alloc (.cells #[.int .i64 f0, .int .i64 f1, .slice sa l2 sc, .slice ea l3 ec, .bool f4, .slice wa l5 wc] 30) = w0 at *
 have PP : Hid (∀ W, Below w0.heap.size w0 W → (W.cell? ⟨w.heap.size, 0, none⟩ = some (.slice ca ds.length cc) ∧ W.cell? ⟨w.heap.size, 1, none⟩ = some (.int .i64 cop)) ∧ W.cell? ⟨w.heap.size + 1, 0, none⟩ = some (.int .i64 f0) ∧ W.cell? ⟨w.heap.size + 1, 1, none⟩ = some (.int .i64 f1) ∧ W.cell? ⟨w.heap.size + 1, 2, none⟩ = some (.slice sa l2 sc) ∧ W.cell? ⟨w.heap.size + 1, 3, none⟩ = some (.slice ea l3 ec) ∧ W.cell? ⟨w.heap.size + 1, 4, none⟩ = some (.bool f4) ∧ W.cell? ⟨w.heap.size + 1, 5, none⟩ = some (.slice wa l5 wc)) := fun W hW => ⟨⟨X0.below hW 0 _ rfl, X0.below hW 1 _ rfl⟩, Y0.below hW 0 _ rfl, Y0.below hW 1 _ rfl, Y0.below hW 2 _ rfl, Y0.below hW 3 _ rfl, Y0.below hW 4 _ rfl, Y0.below hW 5 _ rfl⟩
 have bd : Below w0.heap.size w0 w0.drew := (Below.refl _ _).drew
 clear X0 Y0
 go_region_held3 (fun W => (W.cell? ⟨w.heap.size, 0, none⟩ = some (.slice ca ds.length cc) ∧ W.cell? ⟨w.heap.size, 1, none⟩ = some (.int .i64 cop)) ∧ W.cell? ⟨w.heap.size + 1, 0, none⟩ = some (.int .i64 f0) ∧ W.cell? ⟨w.heap.size + 1, 1, none⟩ = some (.int .i64 f1) ∧ W.cell? ⟨w.heap.size + 1, 2, none⟩ = some (.slice sa l2 sc) ∧ W.cell? ⟨w.heap.size + 1, 3, none⟩ = some (.slice ea l3 ec) ∧ W.cell? ⟨w.heap.size + 1, 4, none⟩ = some (.bool f4) ∧ W.cell? ⟨w.heap.size + 1, 5, none⟩ = some (.slice wa l5 wc)) (first | exact dUnhide PP _ hb6 | exact dUnhide PP _ hb5 | exact dUnhide PP _ (Below.refl _ _) | exact dUnhide PP _ bd | go_keep)
  (first
   | (go_at_call 28; refine (dUnhide CS _ (belowThen bA bd)).mono ?_; rintro e w5 ⟨rfl, b5⟩; have hb5 := belowThen bd b5)
   | (go_at_call 26; refine (dUnhide CA _ (belowThen bA hb5)).mono ?_; rintro e w6 ⟨⟨b6, rfl, h6⟩, bl6⟩; have hb6 := belowThen hb5 bl6))
 all_goals
  have R : Hid (RetB P (.returned (.bool b6))) := ⟨_, rfl, h6⟩
  clear h6 CS CA
  go_wp2
  go_ret
  exact ⟨dUnhide R, belowThen bA hb6⟩
set_option maxHeartbeats 4000000 in
theorem implReady_any (cv v : Value) (c : List Int × Int) (m : Mn) (w : World) (hc : RdConfig cv c w) (hv : RdMend v m w) (okc : okConfig c) (ok : okMend m) (hsc : sizConfig c ≤ 1048576) (hs : sizMend m ≤ 1048576) :
  Calls Try.prog 8 #[cv, v] w fun e w' => RetB (rdyP c.1 c.2 m) e ∧ Below w.heap.size w w' := by
 have ba : ∀ (w : World) o, Below w.heap.size w (w.alloc o) := fun w o => (Below.refl _ _).alloc (Nat.le_refl _) o
 have CA := dHide fun W (hb : Below w.heap.size w W) => implAt2_any cv v c m W (hc.below hb) (hv.below hb) okc ok hsc (smlM_of hs)
 rw [← rdy_at] at CA
 obtain ⟨ds, cop⟩ := c
 obtain ⟨ca, cc, rfl, -⟩ := formConfig hc
 obtain ⟨sa, sc, ea, ec, wa, wc, rfl, hl1, hl2, hl3⟩ := formMend hv
 simp only at *
 generalize rdyP ds cop m = P at *
 generalize m.bye = f0 at *
 generalize m.epoch = f1 at *
 generalize m.planned = f4 at *
 generalize m.sealed.length = l2 at *
 generalize m.seen.length = l3 at *
 generalize m.wrote.length = l5 at *
 clear hc hv okc ok hs
 have bA := belowThen (ba w (.cells #[.slice ca ds.length cc, .int .i64 cop] 26)) (ba _ (.cells #[.int .i64 f0, .int .i64 f1, .slice sa l2 sc, .slice ea l3 ec, .bool f4, .slice wa l5 wc] 30))
 go_enter Try.func8, Try.ntmps8
 go_wp2_with fail
 refine (dUnhide CA _ bA).mono ?_
 rintro e w6 ⟨⟨b6, rfl, h6⟩, bl6⟩
 have R : Hid (RetB P (.returned (.bool b6))) := ⟨_, rfl, h6⟩
 have B6 := belowThen bA bl6
 clear h6 CA
 go_wp2
 go_ret
 exact ⟨dUnhide R, B6⟩
end Go.Proofs.Ytapfdmmfhfkhkaa
