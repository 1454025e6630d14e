/- impl.WriterAck. -/
import Derived.Test.YtjbfpmackocgnaaWrV
namespace Go.Proofs.Ytjbfpmackocgnaa
open Go.ChangeShapes Go.WideShapes Go.ChangeAt Go.RowKit
set_option linter.unusedVariables false
set_option linter.unusedSimpArgs false
set_option maxRecDepth 100000

theorem WnR.below {W W' : World} {lo b : Nat} {ep cop : Int} {cs u : Value} {ms : List Wd} (h : WnR W lo b ep cs cop u ms) (hb : Below W.heap.size W W') : WnR W' lo b ep cs cop u ms := by
  obtain ⟨h0, rs, h1, h2, h3, h4⟩ := h
  exact ⟨h0.below hb, rs, h1, h2.below hb, fun p hp => (h3 p hp).below hb, h4⟩
set_option maxHeartbeats 4000000 in
theorem ackFn_any (W : World) (lo b bo bd : Nat) (ep cop : Int) (ca : Option Addr) (cc : Nat) (u : Value) (ds : List Int) (ms : List Wd) (off x : Int) (hW : WnR W lo b ep (.slice ca ds.length cc) cop u ms) (hcf : cfgP ds cop) (hnd : ∀ e ∈ ms, nodesP ds cop e.acks) (hl : ms.length ≤ 60) (hlo : lo ≤ W.heap.size) (hN : ∀ W', Below lo W W' → Ns W' (.slice ca ds.length cc) ds) (had : allInt ds) (hx : okInt x) (ho : W.cell? ⟨bo, 0, none⟩ = some (.int .i64 off)) (hbo : bo < lo) (hc : W.cell? ⟨bd, 0, none⟩ = some (.int .i64 x)) (hbd : bd < lo) :
    Calls Try.prog 66 #[.pointer (some ⟨b, 0, none⟩), .pointer (some ⟨bo, 0, none⟩), .pointer (some ⟨bd, 0, none⟩)] W fun e w' => ((¬ ackP ds ms off x ∧ e = .returned (.bool false) ∧ Wn w' lo b ep (.slice ca ds.length cc) cop u ms) ∨ (ackP ds ms off x ∧ e = .returned (.bool true) ∧ Wn w' lo b ep (.slice ca ds.length cc) cop u (ms.set (off.toNat - 1) (ackW ds cop x (atW ms (off.toNat - 1)))))) ∧ Below lo W w' := by
  have bd' : Below W.heap.size W W.drew := (Below.refl _ _).drew
  have CA := winAck_any W.drew lo b ep cop ca cc u ds ms off x (hW.below bd') hcf hnd hl (by simpa using hlo) (fun W' hb => hN W' ((bd'.mono hlo).trans hb)) had hx
  have HC := dHide fun W' (hb : Below lo W W') => And.intro ((hb.cell (p := ⟨bo, 0, none⟩) hbo).trans ho) ((hb.cell (p := ⟨bd, 0, none⟩) hbd).trans hc)
  have CA2 : Hid (Calls Try.prog 67 #[.pointer (some ⟨b, 1, none⟩), .int .i64 off, .int .i64 x] W.drew fun e w' => ∃ r : Bool, e = .returned (.bool r) ∧ Hid ((¬ ackP ds ms off x ∧ r = false ∧ Wn w' lo b ep (.slice ca ds.length cc) cop u ms) ∨ (ackP ds ms off x ∧ r = true ∧ Wn w' lo b ep (.slice ca ds.length cc) cop u (ms.set (off.toNat - 1) (ackW ds cop x (atW ms (off.toNat - 1)))))) ∧ Below lo W.drew w') := CA.mono (by
    rintro e w' ⟨⟨h1, rfl, h2⟩ | ⟨h1, rfl, h2⟩, hb⟩
    · exact ⟨false, rfl, .inl ⟨h1, rfl, h2⟩, hb⟩
    · exact ⟨true, rfl, .inr ⟨h1, rfl, h2⟩, hb⟩)
  clear hW CA hnd hN hcf
  go_enter Try.func66, Try.ntmps66
  go_wp2_with fail
  go_region_held3 (fun W => W.cell? ⟨bo, 0, none⟩ = some (.int .i64 off) ∧ W.cell? ⟨bd, 0, none⟩ = some (.int .i64 x)) (first | exact q5 | exact ⟨ho, hc⟩ | go_keep)
    (first
      | (go_at_call 67; refine (dUnhide CA2).mono ?_; rintro e w5 ⟨r5, rfl, hW5, b5⟩; have b5' : Below lo W w5 := ⟨b5.os, b5.tape, b5.output, b5.size, b5.block⟩; have q5 := dUnhide HC w5 b5'))
  all_goals
    clear CA2 HC q5 hc ho
    go_wp2
    go_ret
    rcases dUnhide hW5 with ⟨h1, rfl, h2⟩ | ⟨h1, rfl, h2⟩
    · exact ⟨.inl ⟨h1, rfl, h2⟩, b5'⟩
    · exact ⟨.inr ⟨h1, rfl, h2⟩, b5'⟩
set_option maxHeartbeats 8000000 in
theorem implAck_any (cv v : Value) (c : List Int × Int) (m : Wt) (off x : Int) (w : World) (hc : RdConfig cv c w) (hv : RdWriter v m w) (okc : okConfig c) (okm : okWriter m) (okx : okInt x) (hsc : sizConfig c ≤ 1048576) (hs : sizWriter m ≤ 1048576) :
    Calls Try.prog 20 #[cv, v, .int .i64 off, .int .i64 x] w fun e w' => (∃ u, e = .returned (.tuple #[.agg #[.int .i64 (ackM c.1 c.2 m off x).1.epoch, u], .bool (ackM c.1 c.2 m off x).2]) ∧ WAp w' w.heap.size u (ackM c.1 c.2 m off x).1.words) ∧ Below w.heap.size w w' := by
  have ba : ∀ (w : World) o, Below w.heap.size w (w.alloc o) := fun w o => (Below.refl _ _).alloc (Nat.le_refl _) o
  have CC : Hid (∀ W bo bd, Below w.heap.size w W → bo < W.heap.size → W.cell? ⟨bo, 0, none⟩ = some (.int .i64 off) → bd < W.heap.size → W.cell? ⟨bd, 0, none⟩ = some (.int .i64 x) → Calls Try.prog 58 #[v, cv, .func (.func 66) #[] #[.pointer (some ⟨bo, 0, none⟩), .pointer (some ⟨bd, 0, none⟩)]] W fun e w' => (∃ u, e = .returned (.tuple #[.agg #[.int .i64 (ackM c.1 c.2 m off x).1.epoch, u], .bool (ackM c.1 c.2 m off x).2]) ∧ WAp w' W.heap.size u (ackM c.1 c.2 m off x).1.words) ∧ Below W.heap.size W w') := fun W bo bd hb hlo hco hlt hcd =>
    changed_any cv v c m 66 #[.pointer (some ⟨bo, 0, none⟩), .pointer (some ⟨bd, 0, none⟩)] (ackM c.1 c.2 m off x).1 (ackM c.1 c.2 m off x).2 W (hc.below hb) (hv.below hb) okc okm hsc hs Try.call66 (fun hn => by rw [ackM_bad hn]; exact ⟨rfl, rfl⟩) (fun hp W' lo b cs u hB hl1 hl2 hN hW => by
      obtain ⟨hcf, -, hlen, hwd, -⟩ := (wrP_iff _ _ _).1 hp
      obtain ⟨-, ca', cc', rfl, -, -⟩ := hN W' (Below.refl _ _)
      refine (ackFn_any W' lo b bo bd m.epoch c.2 ca' cc' u c.1 m.words off x hW hcf (fun e he => (hwd e he).2.1) hlen hl2 hN okc.1 okx ((hB.cell (p := ⟨bo, 0, none⟩) hlo).trans hco) (by omega) ((hB.cell (p := ⟨bd, 0, none⟩) hlt).trans hcd) (by omega)).mono ?_
      rintro e w5 ⟨⟨h1, he, hw⟩ | ⟨h1, he, hw⟩, b5⟩
      · rw [ackM_no hp h1]
        exact ⟨he, ⟨u, hw⟩, b5⟩
      · rw [ackM_yes hp h1]
        exact ⟨he, ⟨u, hw⟩, b5⟩)
  generalize ackM c.1 c.2 m off x = AM at *
  obtain ⟨R, ok⟩ := AM
  simp only at *
  obtain ⟨ds, cop⟩ := c
  obtain ⟨sc, rfl, hc⟩ := hc
  obtain ⟨a, cap, rfl, hl0⟩ := formWriter hv
  obtain ⟨-, ca, cc, rfl, -, -⟩ := hc
  simp only at *
  clear hv okc okm hs hsc
  have B0 := belowThen (belowThen (belowThen (belowThen (ba w (.cells #[.slice ca ds.length cc, .int .i64 cop] 26)) (ba _ (.cells #[.int .i64 m.epoch, .slice a m.words.length cap] 29))) (ba _ (.cells #[.int .i64 off] 3))) (ba _ (.cells #[.int .i64 x] 3))) (ba _ (.cells #[.int .i64 0, .slice none 0 0] 29))
  have D0 := (Bx.new (((w.alloc (.cells #[.slice ca ds.length cc, .int .i64 cop] 26)).alloc (.cells #[.int .i64 m.epoch, .slice a m.words.length cap] 29)).alloc (.cells #[.int .i64 off] 3)) [.int .i64 x] 3).below (ba _ (.cells #[.int .i64 0, .slice none 0 0] 29))
  have O0 := (Bx.new ((w.alloc (.cells #[.slice ca ds.length cc, .int .i64 cop] 26)).alloc (.cells #[.int .i64 m.epoch, .slice a m.words.length cap] 29)) [.int .i64 off] 3).below (belowThen (ba _ (.cells #[.int .i64 x] 3)) (ba _ (.cells #[.int .i64 0, .slice none 0 0] 29)))
  have Z0 := BxZ.new (B := w.heap.size) ((((w.alloc (.cells #[.slice ca ds.length cc, .int .i64 cop] 26)).alloc (.cells #[.int .i64 m.epoch, .slice a m.words.length cap] 29)).alloc (.cells #[.int .i64 off] 3)).alloc (.cells #[.int .i64 x] 3)) [.int .i64 0, .slice none 0 0] 29 (by simp <;> omega)
  have e2 : ((w.alloc (.cells #[.slice ca ds.length cc, .int .i64 cop] 26)).alloc (.cells #[.int .i64 m.epoch, .slice a m.words.length cap] 29)).heap.size = w.heap.size + 1 + 1 := by simp
  have e3 : (((w.alloc (.cells #[.slice ca ds.length cc, .int .i64 cop] 26)).alloc (.cells #[.int .i64 m.epoch, .slice a m.words.length cap] 29)).alloc (.cells #[.int .i64 off] 3)).heap.size = w.heap.size + 1 + 1 + 1 := by simp
  have e4 : ((((w.alloc (.cells #[.slice ca ds.length cc, .int .i64 cop] 26)).alloc (.cells #[.int .i64 m.epoch, .slice a m.words.length cap] 29)).alloc (.cells #[.int .i64 off] 3)).alloc (.cells #[.int .i64 x] 3)).heap.size = w.heap.size + 1 + 1 + 1 + 1 := by simp
  rw [e2] at O0
  rw [e3] at D0
  rw [e4] at Z0
  replace D0 := dHide D0
  replace O0 := dHide O0
  replace Z0 := dHide Z0
  clear e2 e3 e4
  have hsz0 : Hid (w.heap.size + 1 + 1 + 1 + 1 + 1 = (((((w.alloc (.cells #[.slice ca ds.length cc, .int .i64 cop] 26)).alloc (.cells #[.int .i64 m.epoch, .slice a m.words.length cap] 29)).alloc (.cells #[.int .i64 off] 3)).alloc (.cells #[.int .i64 x] 3)).alloc (.cells #[.int .i64 0, .slice none 0 0] 29)).heap.size) := by simp [Hid]
  go_enter Try.func20, Try.ntmps20
  go_wp2_with fail
  generalize ((((w.alloc (.cells #[.slice ca ds.length cc, .int .i64 cop] 26)).alloc (.cells #[.int .i64 m.epoch, .slice a m.words.length cap] 29)).alloc (.cells #[.int .i64 off] 3)).alloc (.cells #[.int .i64 x] 3)).alloc (.cells #[.int .i64 0, .slice none 0 0] 29) = w0 at *
  have hs0 := dUnhide hsz0
  refine (dUnhide CC w0 (w.heap.size + 1 + 1) (w.heap.size + 1 + 1 + 1) B0 (by omega) (dUnhide O0 0 _ rfl) (by omega) (dUnhide D0 0 _ rfl)).mono ?_
  rintro e w1 ⟨⟨u1, rfl, N1⟩, b1⟩
  obtain ⟨ua, uc, rfl⟩ := N1.slice
  have B1 := belowThen B0 b1
  have Z1 := dHide ((dUnhide Z0).below b1)
  have s1 := b1.size
  obtain ⟨z0, f0⟩ := (dUnhide Z1).2 0 _ rfl
  obtain ⟨z1, f1⟩ := (dUnhide Z1).2 1 _ rfl
  have ZZ := dHide (((dUnhide Z1).put 0 (.int .i64 R.epoch)).put 1 (.slice ua R.words.length uc))
  have BB := dHide ((B1.setCell (p := ⟨w.heap.size + 1 + 1 + 1 + 1, 0, none⟩) (by simp only; omega) (.int .i64 R.epoch)).setCell (p := ⟨w.heap.size + 1 + 1 + 1 + 1, 1, none⟩) (by simp only; omega) (.slice ua R.words.length uc))
  have NV := dHide ((N1.far (b := w.heap.size + 1 + 1 + 1 + 1) (o := 0) (by omega) (.int .i64 R.epoch)).far (b := w.heap.size + 1 + 1 + 1 + 1) (o := 1) (by omega) (.slice ua R.words.length uc))
  clear CC D0 O0 Z0 Z1 B0 B1 b1 N1
  go_wp2_with fail
  generalize (w1.setCell ⟨w.heap.size + 1 + 1 + 1 + 1, 0, none⟩ (.int .i64 R.epoch)).setCell ⟨w.heap.size + 1 + 1 + 1 + 1, 1, none⟩ (.slice ua R.words.length uc) = V at *
  have q0 := ((dUnhide ZZ).2 0 _ rfl).1
  have q1 := ((dUnhide ZZ).2 1 _ rfl).1
  refine bodyPost_ret (v := .tuple #[.agg #[.int .i64 R.epoch, .slice ua R.words.length uc], .bool ok]) (by simp [results, Try.results20, go_sem, q0, q1]) rfl ⟨⟨_, rfl, (dUnhide NV).mono (by omega)⟩, dUnhide BB⟩
end Go.Proofs.Ytjbfpmackocgnaa
