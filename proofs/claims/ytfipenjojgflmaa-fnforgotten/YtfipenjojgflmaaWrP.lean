/- impl.WriterForget. -/
import Derived.Test.YtfipenjojgflmaaWrO
namespace Go.Proofs.Ytfipenjojgflmaa
open Go.ChangeShapes Go.WideShapes Go.ChangeAt Go.RowKit
set_option linter.unusedVariables false
set_option linter.unusedSimpArgs false
set_option maxRecDepth 100000

set_option maxHeartbeats 4000000 in
theorem forgFn_any (W : World) (lo b bd : Nat) (ep cop : Int) (cs u : Value) (ms : List Wd) (x : Int) (hW : Wn W lo b ep cs cop u ms) (hl : ms.length ≤ 60) (hlo : lo ≤ W.heap.size) (hc : W.cell? ⟨bd, 0, none⟩ = some (.int .i64 x)) (hbd : bd < lo) :
    Calls Try.prog 59 #[.pointer (some ⟨b, 0, none⟩), .pointer (some ⟨bd, 0, none⟩)] W fun e w' => e = .returned (.bool true) ∧ Wn w' lo b ep cs cop u (ms.map (forgW x)) ∧ Below lo W w' := by
  have bd' : Below W.heap.size W W.drew := (Below.refl _ _).drew
  have CA := dHide (winForget_any W.drew lo b ep cop cs u ms x (hW.below bd') hl (by simpa using hlo))
  have HC := dHide fun W' (hb : Below lo W W') => (hb.cell (p := ⟨bd, 0, none⟩) hbd).trans hc
  clear hW
  go_enter Try.func59, Try.ntmps59
  go_wp2_with fail
  go_region_held3 (fun W => W.cell? ⟨bd, 0, none⟩ = some (.int .i64 x)) (first | exact q5 | exact hc | go_keep)
    (first
      | (go_at_call 60; refine (dUnhide CA).mono ?_; rintro e w5 ⟨rfl, hW5, b5⟩; have b5' : Below lo W w5 := ⟨b5.os, b5.tape, b5.output, b5.size, b5.block⟩; have q5 := dUnhide HC w5 b5'; have HW5 := dHide hW5; clear hW5))
  all_goals
    clear CA HC q5 hc
    go_wp2
    go_ret
    exact ⟨rfl, dUnhide HW5, b5'⟩
set_option maxHeartbeats 8000000 in
theorem implForget_any (cv v : Value) (c : List Int × Int) (m : Wt) (x : Int) (w : World) (hc : RdConfig cv c w) (hv : RdWriter v m w) (okc : okConfig c) (okm : okWriter m) (hsc : sizConfig c ≤ 1048576) (hs : sizWriter m ≤ 1048576) :
    Calls Try.prog 25 #[cv, v, .int .i64 x] w fun e w' => (∃ u, e = .returned (.tuple #[.agg #[.int .i64 (forgM c.1 c.2 m x).1.epoch, u], .bool (forgM c.1 c.2 m x).2]) ∧ WAp w' w.heap.size u (forgM c.1 c.2 m x).1.words) ∧ Below w.heap.size w w' := by
  have ba : ∀ (w : World) o, Below w.heap.size w (w.alloc o) := fun w o => (Below.refl _ _).alloc (Nat.le_refl _) o
  have CC : Hid (∀ W bd, Below w.heap.size w W → bd < W.heap.size → W.cell? ⟨bd, 0, none⟩ = some (.int .i64 x) → Calls Try.prog 45 #[v, cv, .func (.func 59) #[] #[.pointer (some ⟨bd, 0, none⟩)]] W fun e w' => (∃ u, e = .returned (.tuple #[.agg #[.int .i64 (forgM c.1 c.2 m x).1.epoch, u], .bool (forgM c.1 c.2 m x).2]) ∧ WAp w' W.heap.size u (forgM c.1 c.2 m x).1.words) ∧ Below W.heap.size W w') := fun W bd hb hlt hcd =>
    changed_any cv v c m 59 #[.pointer (some ⟨bd, 0, none⟩)] (forgM c.1 c.2 m x).1 (forgM c.1 c.2 m x).2 W (hc.below hb) (hv.below hb) okc okm hsc hs Try.call59 (fun hn => by rw [forgM_bad hn]; exact ⟨rfl, rfl⟩) (fun hp W' lo b cs u hB hl1 hl2 hN hW => by
      have hlen := ((wrP_iff _ _ _).1 hp).2.2.1
      refine (forgFn_any W' lo b bd m.epoch c.2 cs u m.words x hW.wn hlen hl2 ((hB.cell (p := ⟨bd, 0, none⟩) hlt).trans hcd) (by omega)).mono ?_
      rintro e w5 ⟨he, hw, b5⟩
      rw [forgM_yes hp]
      exact ⟨he, ⟨u, hw⟩, b5⟩)
  generalize forgM c.1 c.2 m x = AM at *
  obtain ⟨R, ok⟩ := AM
  simp only at *
  obtain ⟨ds, cop⟩ := c
  obtain ⟨sc, rfl, hc⟩ := hc
  obtain ⟨a, cap, rfl, hl0⟩ := formWriter hv
  obtain ⟨-, ca, cc, rfl, -, -⟩ := hc
  simp only at *
  clear hv okc okm hs hsc
  have B0 := belowThen (belowThen (belowThen (ba w (.cells #[.slice ca ds.length cc, .int .i64 cop] 26)) (ba _ (.cells #[.int .i64 m.epoch, .slice a m.words.length cap] 29))) (ba _ (.cells #[.int .i64 x] 3))) (ba _ (.cells #[.int .i64 0, .slice none 0 0] 29))
  have D0 := (Bx.new ((w.alloc (.cells #[.slice ca ds.length cc, .int .i64 cop] 26)).alloc (.cells #[.int .i64 m.epoch, .slice a m.words.length cap] 29)) [.int .i64 x] 3).below (ba _ (.cells #[.int .i64 0, .slice none 0 0] 29))
  have Z0 := BxZ.new (B := w.heap.size) (((w.alloc (.cells #[.slice ca ds.length cc, .int .i64 cop] 26)).alloc (.cells #[.int .i64 m.epoch, .slice a m.words.length cap] 29)).alloc (.cells #[.int .i64 x] 3)) [.int .i64 0, .slice none 0 0] 29 (by simp <;> omega)
  have e2 : ((w.alloc (.cells #[.slice ca ds.length cc, .int .i64 cop] 26)).alloc (.cells #[.int .i64 m.epoch, .slice a m.words.length cap] 29)).heap.size = w.heap.size + 1 + 1 := by simp
  have e3 : (((w.alloc (.cells #[.slice ca ds.length cc, .int .i64 cop] 26)).alloc (.cells #[.int .i64 m.epoch, .slice a m.words.length cap] 29)).alloc (.cells #[.int .i64 x] 3)).heap.size = w.heap.size + 1 + 1 + 1 := by simp
  rw [e2] at D0
  rw [e3] at Z0
  replace D0 := dHide D0
  replace Z0 := dHide Z0
  clear e2 e3
  have hsz0 : Hid (w.heap.size + 1 + 1 + 1 + 1 = ((((w.alloc (.cells #[.slice ca ds.length cc, .int .i64 cop] 26)).alloc (.cells #[.int .i64 m.epoch, .slice a m.words.length cap] 29)).alloc (.cells #[.int .i64 x] 3)).alloc (.cells #[.int .i64 0, .slice none 0 0] 29)).heap.size) := by simp [Hid]
  go_enter Try.func25, Try.ntmps25
  go_wp2_with fail
  generalize (((w.alloc (.cells #[.slice ca ds.length cc, .int .i64 cop] 26)).alloc (.cells #[.int .i64 m.epoch, .slice a m.words.length cap] 29)).alloc (.cells #[.int .i64 x] 3)).alloc (.cells #[.int .i64 0, .slice none 0 0] 29) = w0 at *
  have hs0 := dUnhide hsz0
  refine (dUnhide CC w0 (w.heap.size + 1 + 1) B0 (by omega) (dUnhide D0 0 _ rfl)).mono ?_
  rintro e w1 ⟨⟨u1, rfl, N1⟩, b1⟩
  obtain ⟨ua, uc, rfl⟩ := N1.slice
  have B1 := belowThen B0 b1
  have Z1 := dHide ((dUnhide Z0).below b1)
  have s1 := b1.size
  obtain ⟨z0, f0⟩ := (dUnhide Z1).2 0 _ rfl
  obtain ⟨z1, f1⟩ := (dUnhide Z1).2 1 _ rfl
  have ZZ := dHide (((dUnhide Z1).put 0 (.int .i64 R.epoch)).put 1 (.slice ua R.words.length uc))
  have BB := dHide ((B1.setCell (p := ⟨w.heap.size + 1 + 1 + 1, 0, none⟩) (by simp only; omega) (.int .i64 R.epoch)).setCell (p := ⟨w.heap.size + 1 + 1 + 1, 1, none⟩) (by simp only; omega) (.slice ua R.words.length uc))
  have NV := dHide ((N1.far (b := w.heap.size + 1 + 1 + 1) (o := 0) (by omega) (.int .i64 R.epoch)).far (b := w.heap.size + 1 + 1 + 1) (o := 1) (by omega) (.slice ua R.words.length uc))
  clear CC D0 Z0 Z1 B0 B1 b1 N1
  go_wp2_with fail
  generalize (w1.setCell ⟨w.heap.size + 1 + 1 + 1, 0, none⟩ (.int .i64 R.epoch)).setCell ⟨w.heap.size + 1 + 1 + 1, 1, none⟩ (.slice ua R.words.length uc) = V at *
  have q0 := ((dUnhide ZZ).2 0 _ rfl).1
  have q1 := ((dUnhide ZZ).2 1 _ rfl).1
  refine bodyPost_ret (v := .tuple #[.agg #[.int .i64 R.epoch, .slice ua R.words.length uc], .bool ok]) (by simp [results, Try.results25, go_sem, q0, q1]) rfl ⟨⟨_, rfl, (dUnhide NV).mono (by omega)⟩, dUnhide BB⟩
end Go.Proofs.Ytfipenjojgflmaa
