/- impl's writing: its state; writer, changed. -/
import Derived.Test.YtjbfpmackocgnaaWrI
import Derived.Test.YtjbfpmackocgnaaWrH
namespace Go.Proofs.Ytjbfpmackocgnaa
open Go.ChangeShapes Go.WideShapes Go.ChangeAt Go.RowKit
set_option linter.unusedVariables false
set_option linter.unusedSimpArgs false
set_option maxRecDepth 100000

/-- A writing: its block, and the words that it has, apart from it. -/
def Wn (W : World) (lo b : Nat) (ep : Int) (cs : Value) (cop : Int) (u : Value) (ms : List Wd) : Prop :=
  BxZ W lo b [.int .i64 ep, cs, .int .i64 cop, u] ∧ ∃ rs : List (Nst Wd), rs.map Nst.m = ms ∧ ApR 35 3 wdCl W lo u rs ∧ (∀ p ∈ rs, OwnN W lo (Sv Wd.acks p) p.m.acks) ∧
    (∀ i j (hi : i < rs.length) (hj : j < rs.length), i ≠ j → rs[i].m.acks = [] ∨ rs[j].m.acks = [] ∨ blockOf (Sv Wd.acks rs[i]) ≠ blockOf (Sv Wd.acks rs[j])) ∧ (∀ i (hi : i < rs.length), rs[i].m.acks = [] ∨ touch u ≠ some (blockOf (Sv Wd.acks rs[i]))) ∧
    touch u ≠ some b ∧ ∀ p ∈ rs, p.m.acks = [] ∨ blockOf (Sv Wd.acks p) ≠ b
section
variable {W W' : World} {lo b : Nat} {ep cop : Int} {cs u : Value} {ms : List Wd}
theorem Wn.below (h : Wn W lo b ep cs cop u ms) (hb : Below W.heap.size W W') : Wn W' lo b ep cs cop u ms := by
  obtain ⟨h0, rs, h1, h2, h3, h4⟩ := h
  exact ⟨h0.below hb, rs, h1, h2.below hb, fun p hp => (h3 p hp).below hb, h4⟩
theorem Wn.wap (h : Wn W lo b ep cs cop u ms) : WAp W lo u ms := by
  obtain ⟨-, rs, h1, h2, h3, h4, h5, -⟩ := h
  exact ⟨rs, h1, h2, h3, h4, h5⟩
theorem Wn.box (h : Wn W lo b ep cs cop u ms) : BxZ W lo b [.int .i64 ep, cs, .int .i64 cop, u] := h.1
theorem Wn.lt (h : Wn W lo b ep cs cop u ms) : lo ≤ b ∧ b < W.heap.size := ⟨h.1.1, h.1.lt⟩
theorem Wn.slice (h : Wn W lo b ep cs cop u ms) : ∃ a c, u = .slice a ms.length c := h.wap.slice
/-- A writing, each list of which may be appended to. -/
def WnR (W : World) (lo b : Nat) (ep : Int) (cs : Value) (cop : Int) (u : Value) (ms : List Wd) : Prop :=
  BxZ W lo b [.int .i64 ep, cs, .int .i64 cop, u] ∧ ∃ rs : List (Nst Wd), rs.map Nst.m = ms ∧ ApR 35 3 wdCl W lo u rs ∧ (∀ p ∈ rs, RmN W lo (Sv Wd.acks p) p.m.acks) ∧
    (∀ i j (hi : i < rs.length) (hj : j < rs.length), i ≠ j → rs[i].m.acks = [] ∨ rs[j].m.acks = [] ∨ blockOf (Sv Wd.acks rs[i]) ≠ blockOf (Sv Wd.acks rs[j])) ∧ (∀ i (hi : i < rs.length), rs[i].m.acks = [] ∨ touch u ≠ some (blockOf (Sv Wd.acks rs[i]))) ∧
    touch u ≠ some b ∧ ∀ p ∈ rs, p.m.acks = [] ∨ blockOf (Sv Wd.acks p) ≠ b
theorem WnR.wn (h : WnR W lo b ep cs cop u ms) : Wn W lo b ep cs cop u ms := by
  obtain ⟨h0, rs, h1, h2, h3, h4⟩ := h
  exact ⟨h0, rs, h1, h2, fun p hp => (h3 p hp).own, h4⟩
theorem WnR.of (hN : WApR W lo u ms) (hb : Below W.heap.size W W') {lo' : Nat} (hl : lo' ≤ lo) (hX : BxZ W' lo' b [.int .i64 ep, cs, .int .i64 cop, u]) (hlt : W.heap.size ≤ b) : WnR W' lo' b ep cs cop u ms := by
  have ht := fun k (hk : touch u = some k) => (hN.wap.touched hk).2
  obtain ⟨rs, h1, h2, h3, h4, h5⟩ := hN
  refine ⟨hX, rs, h1, (h2.below hb).mono hl, fun p hp => ((h3 p hp).below hb).mono hl, h4, h5, fun e => ?_, fun p hp => ?_⟩
  · have := ht _ e; omega
  · rcases (h3 p hp).bs.lt with h | h
    · exact .inl h
    · exact .inr (by omega)
/-- A writing over words that were there ahead of it. -/
theorem Wn.of (hN : WAp W lo u ms) (hb : Below W.heap.size W W') {lo' : Nat} (hl : lo' ≤ lo) (hX : BxZ W' lo' b [.int .i64 ep, cs, .int .i64 cop, u]) (hlt : W.heap.size ≤ b) : Wn W' lo' b ep cs cop u ms := by
  have ht := fun k (hk : touch u = some k) => (hN.touched hk).2
  obtain ⟨rs, h1, h2, h3, h4, h5⟩ := hN
  refine ⟨hX, rs, h1, (h2.below hb).mono hl, fun p hp => ((h3 p hp).below hb).mono hl, h4, h5, fun e => ?_, fun p hp => ?_⟩
  · have := ht _ e; omega
  · rcases (h3 p hp).bs.lt with h | h
    · exact .inl h
    · exact .inr (by omega)
end
theorem writer_any (b : Nat) (ep : Int) (ca : Option Addr) (cn cc : Nat) (cop : Int) (a : Option Addr) (n cap : Nat) (w : World) (hX : Bx w b [.int .i64 ep, .slice ca cn cc, .int .i64 cop, .slice a n cap]) :
    Calls Try.prog 113 #[.pointer (some ⟨b, 0, none⟩)] w fun e w' => e = .returned (.agg #[.int .i64 ep, .slice a n cap]) ∧ Below w.heap.size w w' := by
  have bA : Below w.heap.size w (w.alloc (.cells #[.int .i64 0, .slice none 0 0] 29)) := (Below.refl _ _).alloc (Nat.le_refl _) _
  have Z1 := BxZ.new (B := w.heap.size) w [.int .i64 0, .slice none 0 0] 29 (Nat.le_refl _)
  have X1 := hX.below bA
  have hlt : b < w.heap.size := dCell_lt (hX 0 _ rfl)
  have p0 := X1 0 _ rfl
  have p3 := X1 3 _ rfl
  obtain ⟨z0, f0⟩ := Z1.2 0 _ rfl
  obtain ⟨z1, f1⟩ := Z1.2 1 _ rfl
  have ZZ := dHide ((Z1.put 0 (.int .i64 ep)).put 1 (.slice a n cap))
  have BB := dHide ((bA.setCell (p := ⟨w.heap.size, 0, none⟩) (Nat.le_refl _) (.int .i64 ep)).setCell (p := ⟨w.heap.size, 1, none⟩) (Nat.le_refl _) (.slice a n cap))
  have hne : b ≠ w.heap.size := by omega
  clear hX Z1 X1 bA
  go_enter Try.func113, Try.ntmps113
  go_wp2_with fail
  generalize w.alloc (.cells #[.int .i64 0, .slice none 0 0] 29) = w1 at *
  go_region_held3 (fun W => W.cell? ⟨b, 0, none⟩ = some (.int .i64 ep) ∧ W.cell? ⟨b, 3, none⟩ = some (.slice a n cap)) (first | exact ⟨p0, p3⟩ | exact ⟨set_other (set_other p0 (.inl hne)) (.inl hne), set_other (set_other p3 (.inl hne)) (.inl hne)⟩ | go_keep) (fail)
  all_goals
    go_wp2_with fail
    generalize (w1.setCell ⟨w.heap.size, 0, none⟩ (.int .i64 ep)).setCell ⟨w.heap.size, 1, none⟩ (.slice a n cap) = V at *
    have q0 := ((dUnhide ZZ).2 0 _ rfl).1
    have q1 := ((dUnhide ZZ).2 1 _ rfl).1
    refine bodyPost_ret (v := .agg #[.int .i64 ep, .slice a n cap]) (by simp [results, Try.results113, go_sem, q0, q1]) rfl ⟨rfl, (dUnhide BB).drew⟩
set_option maxHeartbeats 8000000 in
/-- What changed does, if the change is known: R is what is made of the words, ok whether it is done. -/
theorem changed_any (cv v : Value) (c : List Int × Int) (m : Wt) (F : Nat) (caps : Array Value) (R : Wt) (ok : Bool) (w : World) (hc : RdConfig cv c w) (hv : RdWriter v m w) (okc : okConfig c) (okm : okWriter m) (hsc : sizConfig c ≤ 1048576) (hs : sizWriter m ≤ 1048576) (hF : ∀ args w, (callFunc F args).run Try.prog w = .ok (.enter F args) w) (hR : ¬ wrP c.1 c.2 m → R = zeroWt ∧ ok = false)
    (hch : wrP c.1 c.2 m → ∀ W lo b cs u, Below w.heap.size w W → w.heap.size ≤ lo → lo ≤ W.heap.size → (∀ W', Below lo W W' → Ns W' cs c.1) → WnR W lo b m.epoch cs c.2 u m.words → Calls Try.prog F (#[.pointer (some ⟨b, 0, none⟩)] ++ caps) W fun e w' => e = .returned (.bool ok) ∧ (∃ u', Wn w' lo b R.epoch cs c.2 u' R.words) ∧ Below lo W w') :
    Calls Try.prog 58 #[v, cv, .func (.func F) #[] caps] w fun e w' => (∃ u, e = .returned (.tuple #[.agg #[.int .i64 R.epoch, u], .bool ok]) ∧ WAp w' w.heap.size u R.words) ∧ Below w.heap.size w w' := by
  have CO := dHide fun W (hb : Below w.heap.size w W) => implWriterOk_any cv v c m W (hc.below hb) (hv.below hb) okc okm hsc hs
  have CP := dHide fun W (hb : Below w.heap.size w W) => copiedW_any v m W (hv.below hb) hs
  obtain ⟨ds, cop⟩ := c
  obtain ⟨sc, rfl, hc⟩ := hc
  obtain ⟨a, cap, rfl, hl0⟩ := formWriter hv
  simp only at *
  have HC := dHide fun W (hb : Below w.heap.size w W) => hc.below hb
  obtain ⟨-, ca, cc, rfl, -, -⟩ := hc
  have CW := dHide fun W ua uc => writingOf_any ca ds.length cc cop m.epoch ua m.words.length uc W
  have CH := dHide hch
  have CR := dHide hR
  clear hv hch hR
  have ba : ∀ (w : World) o, Below w.heap.size w (w.alloc o) := fun w o => (Below.refl _ _).alloc (Nat.le_refl _) o
  have B0 := belowThen (belowThen (ba w (.cells #[.int .i64 m.epoch, .slice a m.words.length cap] 29)) (ba _ (.cells #[.slice ca ds.length cc, .int .i64 cop] 26))) (ba _ (.cells #[.int .i64 0, .slice none 0 0] 29))
  have Y0 := dHide ((Bx.new w [.int .i64 m.epoch, .slice a m.words.length cap] 29).below (belowThen (ba _ (.cells #[.slice ca ds.length cc, .int .i64 cop] 26)) (ba _ (.cells #[.int .i64 0, .slice none 0 0] 29))))
  have X0 := (Bx.new (w.alloc (.cells #[.int .i64 m.epoch, .slice a m.words.length cap] 29)) [.slice ca ds.length cc, .int .i64 cop] 26).below (ba _ (.cells #[.int .i64 0, .slice none 0 0] 29))
  have Z0 := BxZ.new (B := w.heap.size) ((w.alloc (.cells #[.int .i64 m.epoch, .slice a m.words.length cap] 29)).alloc (.cells #[.slice ca ds.length cc, .int .i64 cop] 26)) [.int .i64 0, .slice none 0 0] 29 (by simp <;> omega)
  have e1 : (w.alloc (.cells #[.int .i64 m.epoch, .slice a m.words.length cap] 29)).heap.size = w.heap.size + 1 := by simp
  have e2 : ((w.alloc (.cells #[.int .i64 m.epoch, .slice a m.words.length cap] 29)).alloc (.cells #[.slice ca ds.length cc, .int .i64 cop] 26)).heap.size = w.heap.size + 1 + 1 := by simp
  rw [e1] at X0
  rw [e2] at Z0
  replace X0 := dHide X0
  replace Z0 := dHide Z0
  clear e1 e2
  have hsz0 : Hid (w.heap.size + 1 + 1 + 1 = (((w.alloc (.cells #[.int .i64 m.epoch, .slice a m.words.length cap] 29)).alloc (.cells #[.slice ca ds.length cc, .int .i64 cop] 26)).alloc (.cells #[.int .i64 0, .slice none 0 0] 29)).heap.size) := by simp [Hid]
  go_enter Try.func58, Try.ntmps58
  go_wp2_with fail
  generalize ((w.alloc (.cells #[.int .i64 m.epoch, .slice a m.words.length cap] 29)).alloc (.cells #[.slice ca ds.length cc, .int .i64 cop] 26)).alloc (.cells #[.int .i64 0, .slice none 0 0] 29) = w0 at *
  refine (dUnhide CO _ B0).mono ?_
  rintro e w1 ⟨⟨b1, rfl, h1⟩, bl1⟩
  have B1 := belowThen B0 bl1
  have X1 := dHide ((dUnhide X0).below bl1)
  have Y1 := dHide ((dUnhide Y0).below bl1)
  have Z1 := dHide ((dUnhide Z0).below bl1)
  have s1 := bl1.size
  clear X0 Y0 Z0 B0 bl1 CO
  cases b1
  · obtain ⟨rfl, rfl⟩ := dUnhide CR fun h => by have := h1.2 h; cases this
    obtain ⟨z0, f0⟩ := (dUnhide Z1).2 0 _ rfl
    obtain ⟨z1, f1⟩ := (dUnhide Z1).2 1 _ rfl
    have ZZ := dHide (((dUnhide Z1).put 0 (.int .i64 0)).put 1 (.slice none 0 0))
    have BB := dHide ((B1.setCell (p := ⟨w.heap.size + 1 + 1, 0, none⟩) (by simp only; omega) (.int .i64 0)).setCell (p := ⟨w.heap.size + 1 + 1, 1, none⟩) (by simp only; omega) (.slice none 0 0))
    clear h1 CP CW CH CR X1 Y1
    go_wp2_with fail
    generalize (w1.setCell ⟨w.heap.size + 1 + 1, 0, none⟩ (.int .i64 0)).setCell ⟨w.heap.size + 1 + 1, 1, none⟩ (.slice none 0 0) = V at *
    have q0 := ((dUnhide ZZ).2 0 _ rfl).1
    have q1 := ((dUnhide ZZ).2 1 _ rfl).1
    refine bodyPost_ret (v := .tuple #[.agg #[.int .i64 0, .slice none 0 0], .bool false]) (by simp [results, Try.results58, go_sem, q0, q1]) rfl ⟨⟨_, rfl, WAp.nil V w.heap.size none⟩, dUnhide BB⟩
  have HP := dHide (h1.1 rfl)
  clear h1 CR
  have hw1 : w.heap.size + 3 ≤ w1.heap.size := by have := dUnhide hsz0; omega
  have bd : Below w1.heap.size w1 w1.drew := (Below.refl _ _).drew
  have CP1 := dHide (dUnhide CP _ (belowThen B1 bd))
  have PC : Hid (∀ W, Below w1.heap.size w1 W → (W.cell? ⟨w.heap.size, 0, none⟩ = some (.int .i64 m.epoch) ∧ W.cell? ⟨w.heap.size, 1, none⟩ = some (.slice a m.words.length cap)) ∧ W.cell? ⟨w.heap.size + 1, 0, none⟩ = some (.slice ca ds.length cc) ∧ W.cell? ⟨w.heap.size + 1, 1, none⟩ = some (.int .i64 cop)) := fun W hb => ⟨⟨(dUnhide Y1).below hb 0 _ rfl, (dUnhide Y1).below hb 1 _ rfl⟩, (dUnhide X1).below hb 0 _ rfl, (dUnhide X1).below hb 1 _ rfl⟩
  have pp := dUnhide PC w1 (Below.refl _ _)
  clear CP
  go_wp2_with fail
  go_cut [8] (fun sv wx => ∃ b u, sv = .pointer (some ⟨b, 0, none⟩) ∧ WnR wx w1.heap.size b m.epoch (.slice ca ds.length cc) cop u m.words ∧ Below w1.heap.size w1 wx)
  case first =>
    go_region_held3 (fun W => (W.cell? ⟨w.heap.size, 0, none⟩ = some (.int .i64 m.epoch) ∧ W.cell? ⟨w.heap.size, 1, none⟩ = some (.slice a m.words.length cap)) ∧ W.cell? ⟨w.heap.size + 1, 0, none⟩ = some (.slice ca ds.length cc) ∧ W.cell? ⟨w.heap.size + 1, 1, none⟩ = some (.int .i64 cop)) (first | exact pp6 | exact pp5 | exact pp | exact dUnhide PC _ bd | go_keep)
      (first
        | (go_at_call 112; refine (dUnhide CP1).mono ?_; rintro e w5 ⟨⟨u5, rfl, N5⟩, b5⟩; have hb5 := belowThen bd b5; have pp5 := dUnhide PC w5 hb5; have HN5 := dHide N5; obtain ⟨ua, uc, rfl⟩ := N5.wap.slice; clear N5)
        | (go_at_call 63; refine (dUnhide CW _ ua uc).mono ?_; rintro e w6 ⟨⟨b6, rfl, X6⟩, bl6⟩; have hb6 := belowThen hb5 bl6; have pp6 := dUnhide PC w6 hb6; have HX6 := dHide X6; clear X6))
    all_goals
      go_wp2_with fail
      go_meet
      case rel =>
        exact ⟨b6, _, rfl, WnR.of (dUnhide HN5) bl6 (by simp) ⟨Nat.le_trans (by simpa using hb5.size) (dUnhide HX6).1, (dUnhide HX6).2⟩ (dUnhide HX6).1, hb6⟩
  case rest =>
    obtain ⟨b, u, rfl, N2, b2⟩ := hcut
    generalize wc = w2 at *
    have B2 := belowThen B1 b2
    have Z2 := dHide ((dUnhide Z1).below b2)
    have s2 := b2.size
    have hblt := N2.wn.lt
    have C3 := dHide (dUnhide CH (dUnhide HP) w2 w1.heap.size b (.slice ca ds.length cc) u B2 (by omega) s2 (fun W' hb => dUnhide HC _ (B2.trans (hb.mono (by omega)))) N2)
    have hcF := hF
    clear CH pp PC CP1 CW X1 Y1 Z1 N2
    go_wp2_with fail
    refine (dUnhide C3).mono ?_
    rintro e w3 ⟨rfl, ⟨u3, N3⟩, b3⟩
    obtain ⟨va, vc, rfl⟩ := N3.slice
    have B3 := dHide (B2.trans (b3.mono (by omega)))
    have Z3 : Hid (BxZ w3 w.heap.size (w.heap.size + 1 + 1) [.int .i64 0, .slice none 0 0]) := ⟨(dUnhide Z2).1, fun i v hv => ⟨(b3.cell (p := ⟨w.heap.size + 1 + 1, i, none⟩) (by simp only; omega)).trans ((dUnhide Z2).2 i v hv).1, (b3.frozen (p := ⟨w.heap.size + 1 + 1, i, none⟩) (by simp only; omega)).trans ((dUnhide Z2).2 i v hv).2⟩⟩
    have C4 := dHide (writer_any b R.epoch ca ds.length cc cop va R.words.length vc w3 N3.box.bx)
    have NW := dHide N3.wap
    clear C3 Z2 B2 N3 hF hcF
    go_wp2_with fail
    refine (dUnhide C4).mono ?_
    rintro e w4 ⟨rfl, b4⟩
    have B4 := belowThen (dUnhide B3) b4
    have Z4 := dHide ((dUnhide Z3).below b4)
    have N4 := (dUnhide NW).below b4
    obtain ⟨z0, f0⟩ := (dUnhide Z4).2 0 _ rfl
    obtain ⟨z1, f1⟩ := (dUnhide Z4).2 1 _ rfl
    have ZZ := dHide (((dUnhide Z4).put 0 (.int .i64 R.epoch)).put 1 (.slice va R.words.length vc))
    have BB := dHide ((B4.setCell (p := ⟨w.heap.size + 1 + 1, 0, none⟩) (by simp only; omega) (.int .i64 R.epoch)).setCell (p := ⟨w.heap.size + 1 + 1, 1, none⟩) (by simp only; omega) (.slice va R.words.length vc))
    have NV := dHide ((N4.far (b := w.heap.size + 1 + 1) (o := 0) (by omega) (.int .i64 R.epoch)).far (b := w.heap.size + 1 + 1) (o := 1) (by omega) (.slice va R.words.length vc))
    clear C4 Z3 Z4 N4 NW B3
    go_wp2_with fail
    generalize (w4.setCell ⟨w.heap.size + 1 + 1, 0, none⟩ (.int .i64 R.epoch)).setCell ⟨w.heap.size + 1 + 1, 1, none⟩ (.slice va R.words.length vc) = V at *
    have q0 := ((dUnhide ZZ).2 0 _ rfl).1
    have q1 := ((dUnhide ZZ).2 1 _ rfl).1
    refine bodyPost_ret (v := .tuple #[.agg #[.int .i64 R.epoch, .slice va R.words.length vc], .bool ok]) (by simp [results, Try.results58, go_sem, q0, q1]) rfl ⟨⟨_, rfl, (dUnhide NV).mono (by omega)⟩, dUnhide BB⟩
end Go.Proofs.Ytjbfpmackocgnaa
