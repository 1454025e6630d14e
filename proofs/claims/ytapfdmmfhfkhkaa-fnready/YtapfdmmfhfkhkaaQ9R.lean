/- MendReady: both answers. -/
import Derived.Test.YtapfdmmfhfkhkaaQ9O
namespace Go.Proofs.Ytapfdmmfhfkhkaa
open Go.ChangeShapes Go.WideShapes Go.ChangeAt Go.RowKit
set_option linter.unusedVariables false
set_option linter.unusedSimpArgs false
set_option maxRecDepth 100000

set_option maxHeartbeats 4000000 in
theorem specReady_any (cv v : Value) (c : List Int × Int) (m : Mn) (w : World) (hc : RdConfig cv c w) (hv : RdMend v m w) (hf : fitE m.seen) (hs : sizMend m ≤ 1048576) :
  Calls Try.prog 9 #[cv, v] w fun e w' => RetB (rdyP c.1 c.2 m) e ∧ Below w.heap.size w w' := by
 have ba : ∀ (w : World) o, Below w.heap.size w (w.alloc o) := fun w o => (Below.refl _ _).alloc (Nat.le_refl _) o
 have CM := dHide fun W (hb : Below w.heap.size w W) => specMendOk_any cv v c m W (hc.below hb) (hv.below hb) hf
 obtain ⟨ds, cop⟩ := c
 obtain ⟨sc', rfl, hc⟩ := hc
 obtain ⟨sv, ev, wv, rfl, h1, h2, rs, hm, hr, hn⟩ := hv
 simp only at *
 have CW : Hid (∀ W, Below w.heap.size w W → ∀ k (hk : k < rs.length), Calls Try.prog 27 #[.agg #[sc', .int .i64 cop], .slice rs[k].a rs[k].m.length rs[k].c] W fun e w' => RetB (holdsP ds cop rs[k].m) e ∧ Below W.heap.size W w') := fun W hb k hk => specHolds_any sc' (Sv idL rs[k]) ds rs[k].m cop W (hc.below hb) ((hn _ (List.getElem_mem hk)).below hb) (by
  have q := sumL_mem (ms := rs.map Nst.m) (k := k) (by simpa using hk)
  rw [List.getElem_map] at q
  have q2 : sumL (rs.map Nst.m) = sumL m.wrote := by rw [hm]
  unfold sizMend sizIntSS at hs
  omega)
 have HR := dHide fun W (hb : Below w.heap.size w W) => hr.below hb
 have PD : Hid (rdyP ds cop m ↔ mnP ds cop m ∧ m.planned = true ∧ ∀ i (h : i < rs.length), holdsP ds cop rs[i].m) := by
  unfold rdyP Hid
  rw [← hm]
  constructor
  ·rintro ⟨h1, h2, h3⟩
   exact ⟨h1, h2, fun i hi => h3 _ (List.mem_map.2 ⟨_, List.getElem_mem hi, rfl⟩)⟩
  ·rintro ⟨h1, h2, h3⟩
   refine ⟨h1, h2, fun l hl => ?_⟩
   obtain ⟨p, hp, rfl⟩ := List.mem_map.1 hl
   obtain ⟨i, hi, rfl⟩ := List.getElem_of_mem hp
   exact h3 i hi
 generalize rdyP ds cop m = P at *
 generalize mnP ds cop m = PM at *
 obtain ⟨-, ca, cc, rfl, -, -⟩ := hc
 obtain ⟨-, sa, sc, rfl, -, -⟩ := h1
 obtain ⟨ea, ec, rfl, hel⟩ := formEntryS h2
 obtain ⟨hrl2, wa, wc, rfl, -, -⟩ := hr
 generalize m.bye = f0 at *
 generalize m.epoch = f1 at *
 generalize m.planned = f4 at *
 generalize m.sealed.length = l2 at *
 generalize m.seen.length = l3 at *
 clear hn hm h2 hf hs
 have B0 := belowThen (ba w (.cells #[.slice ca ds.length cc, .int .i64 cop] 26)) (ba _ (.cells #[.int .i64 f0, .int .i64 f1, .slice sa l2 sc, .slice ea l3 ec, .bool f4, .slice wa rs.length wc] 30))
 have X0 := (Bx.new w [.slice ca ds.length cc, .int .i64 cop] 26).below (ba _ (.cells #[.int .i64 f0, .int .i64 f1, .slice sa l2 sc, .slice ea l3 ec, .bool f4, .slice wa rs.length wc] 30))
 have Y0 := Bx.new (w.alloc (.cells #[.slice ca ds.length cc, .int .i64 cop] 26)) [.int .i64 f0, .int .i64 f1, .slice sa l2 sc, .slice ea l3 ec, .bool f4, .slice wa rs.length wc] 30
 have e1 : (w.alloc (.cells #[.slice ca ds.length cc, .int .i64 cop] 26)).heap.size = w.heap.size + 1 := by simp
 rw [e1] at Y0
 clear e1
 go_enter Try.func9, Try.ntmps9
 go_wp2_with fail
 generalize (w.alloc (.cells #[.slice ca ds.length cc, .int .i64 cop] 26)).alloc (.cells #[.int .i64 f0, .int .i64 f1, .slice sa l2 sc, .slice ea l3 ec, .bool f4, .slice wa rs.length wc] 30) = w0 at *
 have HX := dHide fun W (hb : Below w0.heap.size w0 W) => X0.below hb
 have HY := dHide fun W (hb : Below w0.heap.size w0 W) => Y0.below hb
 clear X0 Y0
 refine (dUnhide CM _ B0).mono ?_
 rintro e w1 ⟨⟨b1, rfl, h1⟩, bl1⟩
 have j4 := dUnhide HY _ bl1 4 _ rfl
 clear CM
 cases b1
 ·have R : RetB P (.returned (.bool false)) := RetB.no fun h => by have := h1.2 ((dUnhide PD).1 h).1; cases this
  clear h1
  go_wp2
  go_ret
  exact ⟨R, belowThen B0 bl1⟩
 have H1 := dHide (h1.1 rfl)
 clear h1
 cases f4
 ·have R : RetB P (.returned (.bool false)) := RetB.no fun h => by have := ((dUnhide PD).1 h).2.1; cases this
  go_wp2
  go_ret
  exact ⟨R, belowThen B0 bl1⟩
 go_wp2
 go_loopw [5] (fun x wr => ∃ k : Nat, x = .int .i64 (k : Int) ∧ k ≤ rs.length ∧ Hid (∀ i (h : i < rs.length), i < k → holdsP ds cop rs[i].m) ∧ Below w0.heap.size w0 wr) (fun x _ => rs.length - (intOf x).toNat)
 case atStart => exact ⟨0, rfl, Nat.zero_le _, fun i h h' => by omega, bl1⟩
 case round =>
  obtain ⟨k, rfl, hk, hinv, hb⟩ := hrel
  have j5 := dUnhide HY _ hb 5 _ rfl
  by_cases hlt : (k : Int) < (rs.length : Int)
  ·have hkl : k < rs.length := by omega
   obtain ⟨b, off, rfl, hce⟩ := (dUnhide HR wr (belowThen B0 hb)).ls hkl
   have EE := hce k hkl
   have CWk := dHide fun W (hW : Below wr.heap.size wr W) => dUnhide CW W (belowThen B0 (belowThen hb hW)) k hkl
   have GYk : Hid (holdsP ds cop rs[k].m → ∀ i (h : i < rs.length), i < k + 1 → holdsP ds cop rs[i].m) := fun he i h h' => by
    rcases Nat.lt_or_ge i k with hlt' | hge
    ·exact dUnhide hinv i h hlt'
    ·obtain rfl : i = k := by omega
     exact he
   have GNk : Hid (¬ holdsP ds cop rs[k].m → ¬ P) := fun he h => he (((dUnhide PD).1 h).2.2 k hkl)
   generalize rs[k] = y at *
   obtain ⟨ya, yc, yn⟩ := y
   simp only at *
   generalize holdsP ds cop yn = NP at *
   have PP : Hid (∀ W, Below wr.heap.size wr W → (W.cell? ⟨w.heap.size, 0, none⟩ = some (.slice ca ds.length cc) ∧ W.cell? ⟨w.heap.size, 1, none⟩ = some (.int .i64 cop)) ∧ W.cell? ⟨w.heap.size + 1, 5, none⟩ = some (.slice (some ⟨b, off, none⟩) rs.length wc) ∧ W.cell? ⟨b, off + k, none⟩ = some (.slice ya yn.length yc)) := fun W hW => ⟨⟨dUnhide HX W (belowThen hb hW) 0 _ rfl, dUnhide HX W (belowThen hb hW) 1 _ rfl⟩, dUnhide HY W (belowThen hb hW) 5 _ rfl, (hW.cell (p := ⟨b, off + k, none⟩) (dCell_lt EE)).trans EE⟩
   have bd : Below wr.heap.size wr wr.drew := (Below.refl _ _).drew
   have BR := belowThen B0 hb
   clear hce hinv EE
   go_wp2_with fail
   go_region_held3 (fun W => (W.cell? ⟨w.heap.size, 0, none⟩ = some (.slice ca ds.length cc) ∧ W.cell? ⟨w.heap.size, 1, none⟩ = some (.int .i64 cop)) ∧ W.cell? ⟨w.heap.size + 1, 5, none⟩ = some (.slice (some ⟨b, off, none⟩) rs.length wc) ∧ W.cell? ⟨b, off + k, none⟩ = some (.slice ya yn.length yc)) (first | exact dUnhide PP _ b5' | exact dUnhide PP _ (Below.refl _ _) | exact dUnhide PP _ bd | go_keep)
    (first
     | (go_at_call 27; refine (dUnhide CWk _ bd).mono ?_; rintro e w5 ⟨⟨b5, rfl, h5⟩, bl5⟩; have b5' := belowThen bd bl5))
   all_goals
    cases b5
    ·have R : RetB P (.returned (.bool false)) := RetB.no (dUnhide GNk fun h => by have := h5.2 h; cases this)
     clear GYk GNk h5 CWk
     go_wp2
     go_ret
     exact ⟨R, belowThen BR b5'⟩
    ·have G := dHide (dUnhide GYk (h5.1 rfl))
     clear GYk GNk h5 CWk
     go_wp2
     go_roundw
     case rel => exact ⟨k + 1, by go_num, by omega, G, belowThen hb b5'⟩
     case measure => simp [intOf]; omega
  ·have R : RetB P (.returned (.bool true)) := RetB.yes ((dUnhide PD).2 ⟨dUnhide H1, by simp, fun i hi => dUnhide hinv i hi (by omega)⟩)
   clear hinv HR CW PD H1
   go_wp2
   go_ret
   exact ⟨R, belowThen B0 hb⟩
end Go.Proofs.Ytapfdmmfhfkhkaa
