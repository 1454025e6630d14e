/- JudgeAll: both answers (tools/mkq14.py). -/
import Derived.Test.YtekgkjomdpjkbaaGreatGk4
import Derived.Test.YtekgkjomdpjkbaaGreatGk12
import Derived.Test.YtekgkjomdpjkbaaGreatQ14K
import Derived.Test.YtekgkjomdpjkbaaGreatGk10
import Derived.Test.YtekgkjomdpjkbaaGreatGz22
import Derived.Deep.RegionHeld3
namespace Go.Proofs.YtekgkjomdpjkbaaGreat
open Go.ChangeShapes Go.WideShapes Go.ChangeAt Go.RowKit
set_option linter.unusedVariables false
set_option linter.unusedSimpArgs false
set_option maxRecDepth 100000

def allP (m : Wo) : Prop := orderP m ∧ trueP m ∧ keptP m ∧ wholeP m ∧ sameP m
theorem judgeWhole1 (w : World) (m : Wo) (ok : okWorld m) (hs : sizWorld m ≤ 1048576) (h : woP m) : Judge1 w m ⟨#[119, 104, 111, 108, 101]⟩ (m.torn = true ∨ ∀ r ∈ m.readers, noLoss r) := fun W bx b mb hb hc hm ⟨c5, rv, tv, c8, c9, hr, ht⟩ => by
 have hrl : ∀ r ∈ m.readers, r.out.length ≤ 1048576 := fun r hr => rrOut_le (by unfold sizWorld at hs; omega) hr
 have C := wholeC_any bx rv m.readers W c8 hr hrl
 cases ht' : m.torn with
 | false =>
  rw [ht'] at hm
  exact (judged1_found ⟨#[119, 104, 111, 108, 101]⟩ mb b 5 3 124 _ _ _ W (by intro args w; rfl) hc hm (by kernel_rfl) C).mono fun e w' ⟨h1, h2⟩ => ⟨h1.to_iff ⟨.inr, fun q => q.resolve_left (by simp)⟩, h2⟩
 | true =>
  rw [ht'] at hm
  exact (judged1_none ⟨#[119, 104, 111, 108, 101]⟩ mb b 5 _ W hc hm (by kernel_rfl)).mono fun e w' ⟨h1, h2⟩ => ⟨h1.to_iff ⟨fun _ => .inl rfl, fun _ => trivial⟩, h2⟩
theorem judgeOrder1 (w : World) (m : Wo) (ok : okWorld m) (hs : sizWorld m ≤ 1048576) (h : woP m) : Judge1 w m ⟨#[111, 114, 100, 101, 114]⟩ (∀ r ∈ m.readers, ordR r) := fun W bx b mb hb hc hm ⟨c5, rv, tv, c8, c9, hr, ht⟩ => by
 have hrl : ∀ r ∈ m.readers, r.out.length ≤ 1048576 := fun r hr => rrOut_le (by unfold sizWorld at hs; omega) hr
 have C := orderC_any bx rv m.readers W c8 hr hrl
 cases ht' : m.torn with
 | false =>
  rw [ht'] at hm
  exact judged1_found ⟨#[111, 114, 100, 101, 114]⟩ mb b 5 0 115 _ _ _ W (by intro args w; rfl) hc hm (by kernel_rfl) C
 | true =>
  rw [ht'] at hm
  exact judged1_found ⟨#[111, 114, 100, 101, 114]⟩ mb b 5 0 115 _ _ _ W (by intro args w; rfl) hc hm (by kernel_rfl) C
theorem Judge1.to_iff {w : World} {m : Wo} {z : ByteArray} {P Q : Prop} (h : Judge1 w m z P) (hq : P ↔ Q) : Judge1 w m z Q := fun W bx b mb h1 h2 h3 h4 => (h W bx b mb h1 h2 h3 h4).mono fun e w' ⟨q1, q2⟩ => ⟨q1.to_iff hq, q2⟩
def nameP (m : Wo) (z : ByteArray) : Prop := (z = ⟨#[111, 114, 100, 101, 114]⟩ → ∀ r ∈ m.readers, ordR r) ∧ (z = ⟨#[116, 114, 117, 101]⟩ → ∀ r ∈ m.readers, trueR m.sent r) ∧ (z = ⟨#[107, 101, 112, 116]⟩ → m.torn = true ∨ ∀ r ∈ m.readers, keptR m.sent m.reg.trim r) ∧ (z = ⟨#[119, 104, 111, 108, 101]⟩ → m.torn = true ∨ ∀ r ∈ m.readers, noLoss r) ∧ (z = ⟨#[115, 97, 109, 101]⟩ → m.torn = true ∨ samR m.readers m.reg.trim)
theorem nameP_order (m : Wo) : (∀ r ∈ m.readers, ordR r) ↔ nameP m ⟨#[111, 114, 100, 101, 114]⟩ := ⟨fun h => ⟨fun _ => h, fun e => absurd e (by decide), fun e => absurd e (by decide), fun e => absurd e (by decide), fun e => absurd e (by decide)⟩, fun h => h.1 rfl⟩
theorem nameP_true (m : Wo) : (∀ r ∈ m.readers, trueR m.sent r) ↔ nameP m ⟨#[116, 114, 117, 101]⟩ := ⟨fun h => ⟨fun e => absurd e (by decide), fun _ => h, fun e => absurd e (by decide), fun e => absurd e (by decide), fun e => absurd e (by decide)⟩, fun h => h.2.1 rfl⟩
theorem nameP_kept (m : Wo) : (m.torn = true ∨ ∀ r ∈ m.readers, keptR m.sent m.reg.trim r) ↔ nameP m ⟨#[107, 101, 112, 116]⟩ := ⟨fun h => ⟨fun e => absurd e (by decide), fun e => absurd e (by decide), fun _ => h, fun e => absurd e (by decide), fun e => absurd e (by decide)⟩, fun h => h.2.2.1 rfl⟩
theorem nameP_whole (m : Wo) : (m.torn = true ∨ ∀ r ∈ m.readers, noLoss r) ↔ nameP m ⟨#[119, 104, 111, 108, 101]⟩ := ⟨fun h => ⟨fun e => absurd e (by decide), fun e => absurd e (by decide), fun e => absurd e (by decide), fun _ => h, fun e => absurd e (by decide)⟩, fun h => h.2.2.2.1 rfl⟩
theorem nameP_same (m : Wo) : (m.torn = true ∨ samR m.readers m.reg.trim) ↔ nameP m ⟨#[115, 97, 109, 101]⟩ := ⟨fun h => ⟨fun e => absurd e (by decide), fun e => absurd e (by decide), fun e => absurd e (by decide), fun e => absurd e (by decide), fun _ => h⟩, fun h => h.2.2.2.2 rfl⟩
theorem judgedAll_any (v nv' : Value) (m : Wo) (w : World) (ok : okWorld m) (hs : sizWorld m ≤ 1048576) (hv : RdWorld v m w) (hn : Txs w nv' [⟨#[111, 114, 100, 101, 114]⟩, ⟨#[116, 114, 117, 101]⟩, ⟨#[107, 101, 112, 116]⟩, ⟨#[119, 104, 111, 108, 101]⟩, ⟨#[115, 97, 109, 101]⟩]) :
  Calls Tryz.prog 42 #[v, nv'] w fun e w' => RetB (allP m) e ∧ Below w.heap.size w w' :=
 (judgedG_any v nv' m [⟨#[111, 114, 100, 101, 114]⟩, ⟨#[116, 114, 117, 101]⟩, ⟨#[107, 101, 112, 116]⟩, ⟨#[119, 104, 111, 108, 101]⟩, ⟨#[115, 97, 109, 101]⟩] (nameP m) w ok hs hv hn fun h z hz => by
  simp only [List.mem_cons, List.not_mem_nil, or_false] at hz
  rcases hz with rfl | rfl | rfl | rfl | rfl
  ·exact (judgeOrder1 w m ok hs h).to_iff (nameP_order m)
  ·exact (judgeTrue1 w m hs h).to_iff (nameP_true m)
  ·exact (judgeKept1 w m ok hs h).to_iff (nameP_kept m)
  ·exact (judgeWhole1 w m ok hs h).to_iff (nameP_whole m)
  ·exact (judgeSame1 w m ok hs h).to_iff (nameP_same m)).mono fun e w' ⟨h1, h2⟩ => ⟨h1.to_iff ⟨fun h => ⟨⟨h.1, (nameP_order m).2 (h.2 _ (by simp))⟩, ⟨h.1, (nameP_true m).2 (h.2 _ (by simp))⟩, ⟨h.1, (nameP_kept m).2 (h.2 _ (by simp))⟩, ⟨h.1, (nameP_whole m).2 (h.2 _ (by simp))⟩, ⟨h.1, (nameP_same m).2 (h.2 _ (by simp))⟩⟩, fun h => ⟨h.1.1, fun z hz => by
  simp only [List.mem_cons, List.not_mem_nil, or_false] at hz
  rcases hz with rfl | rfl | rfl | rfl | rfl
  ·exact (nameP_order m).1 h.1.2
  ·exact (nameP_true m).1 h.2.1.2
  ·exact (nameP_kept m).1 h.2.2.1.2
  ·exact (nameP_whole m).1 h.2.2.2.1.2
  ·exact (nameP_same m).1 h.2.2.2.2.2⟩⟩, h2⟩
theorem names5 (w : World) (s0 s1 s2 s3 s4 : ByteArray) : Txs (w.alloc (.cells #[.string s0, .string s1, .string s2, .string s3, .string s4] 9)) (.slice (some ⟨w.heap.size, 0, none⟩) 5 5) [s0, s1, s2, s3, s4] :=
 ⟨by simp, _, 5, rfl, ⟨by simp, by omega⟩, .inr ⟨w.heap.size, 0, rfl, fun i hi => by
  have X := Bx.new w [.string s0, .string s1, .string s2, .string s3, .string s4] 9
  have : i = 0 ∨ i = 1 ∨ i = 2 ∨ i = 3 ∨ i = 4 := by simp at hi; omega
  rcases this with rfl | rfl | rfl | rfl | rfl
  ·exact X 0 _ rfl
  ·exact X 1 _ rfl
  ·exact X 2 _ rfl
  ·exact X 3 _ rfl
  ·exact X 4 _ rfl⟩⟩
set_option maxHeartbeats 4000000 in
theorem implAll_any (v : Value) (m : Wo) (w : World) (ok : okWorld m) (hs : sizWorld m ≤ 1048576) (hv : RdWorld v m w) :
  Calls Tryz.prog 23 #[v] w fun e w' => RetB (allP m) e ∧ Below w.heap.size w w' := by
 have CJ := dH fun W (hb : Below w.heap.size w W) nv' (hn : Txs W nv' [⟨#[111, 114, 100, 101, 114]⟩, ⟨#[116, 114, 117, 101]⟩, ⟨#[107, 101, 112, 116]⟩, ⟨#[119, 104, 111, 108, 101]⟩, ⟨#[115, 97, 109, 101]⟩]) => judgedAll_any v nv' m W ok hs (hv.below hb) hn
 obtain ⟨da, dc, sa, sc, la, lc, ea, ec, wa, wc, na, nc, ra, rc', ta, tc, rfl, hd, hst, hlo, hre, hwr, hme, hrd, hse⟩ := partsWorld hv
 clear hd hst hlo hre hwr hme hse hs ok hrd hv
 generalize allP m = PQ at *
 obtain ⟨⟨ds, cop⟩, stores, lost, ⟨eras, trim⟩, writers, mends, readers, sent, torn⟩ := m
 simp only at *
 have B0 : Below w.heap.size w (w.alloc (.cells #[.slice da ds.length dc, .int .i64 cop, .slice sa stores.length sc, .slice la lost.length lc, .slice ea eras.length ec, .int .i64 trim, .slice wa writers.length wc, .slice na mends.length nc, .slice ra readers.length rc', .slice ta sent.length tc, .bool torn] 47)) := (Below.refl _ _).alloc (Nat.le_refl _) _
 have es : (w.alloc (.cells #[.slice da ds.length dc, .int .i64 cop, .slice sa stores.length sc, .slice la lost.length lc, .slice ea eras.length ec, .int .i64 trim, .slice wa writers.length wc, .slice na mends.length nc, .slice ra readers.length rc', .slice ta sent.length tc, .bool torn] 47)).heap.size = w.heap.size + 1 := by simp
 have N1 := names5 (w.alloc (.cells #[.slice da ds.length dc, .int .i64 cop, .slice sa stores.length sc, .slice la lost.length lc, .slice ea eras.length ec, .int .i64 trim, .slice wa writers.length wc, .slice na mends.length nc, .slice ra readers.length rc', .slice ta sent.length tc, .bool torn] 47)) ⟨#[111, 114, 100, 101, 114]⟩ ⟨#[116, 114, 117, 101]⟩ ⟨#[107, 101, 112, 116]⟩ ⟨#[119, 104, 111, 108, 101]⟩ ⟨#[115, 97, 109, 101]⟩
 rw [es] at N1
 replace N1 := dH N1
 have B1 := dH (bT B0 ((Below.refl _ _).alloc (Nat.le_refl _) (.cells #[.string ⟨#[111, 114, 100, 101, 114]⟩, .string ⟨#[116, 114, 117, 101]⟩, .string ⟨#[107, 101, 112, 116]⟩, .string ⟨#[119, 104, 111, 108, 101]⟩, .string ⟨#[115, 97, 109, 101]⟩] 9)))
 clear es B0
 go_enter Tryz.func23, Tryz.ntmps23
 go_wp2_with fail
 refine (dU CJ _ (dU B1) _ (dU N1)).mono ?_
 rintro e w1 ⟨⟨q, rfl, h⟩, b1⟩
 have R := dH (show RetB PQ (.returned (.bool q)) from ⟨q, rfl, h⟩)
 have B2 := bT (dU B1) b1
 clear CJ h b1 B1 N1
 cases q
 all_goals
  go_wp2
  go_ret
  exact ⟨dU R, B2⟩
set_option maxHeartbeats 8000000 in
theorem specAll_any (v : Value) (m : Wo) (w : World) (ok : okWorld m) (hs : sizWorld m ≤ 1048576) (hv : RdWorld v m w) :
  Calls Tryz.prog 22 #[v] w fun e w' => RetB (allP m) e ∧ Below w.heap.size w w' := by
 have C0 := dH fun W (hb : Below w.heap.size w W) => specOrder_any v m W ok hs (hv.below hb)
 have C1 := dH fun W (hb : Below w.heap.size w W) => specTrue_any v m W ok hs (hv.below hb)
 have C2 := dH fun W (hb : Below w.heap.size w W) => specKept_any v m W ok hs (hv.below hb)
 have C3 := dH fun W (hb : Below w.heap.size w W) => specWhole_any v m W ok hs (hv.below hb)
 have C4 := dH fun W (hb : Below w.heap.size w W) => specSame_any v m W ok hs (hv.below hb)
 obtain ⟨da, dc, sa, sc, la, lc, ea, ec, wa, wc, na, nc, ra, rc', ta, tc, rfl, hd, hst, hlo, hre, hwr, hme, hrd, hse⟩ := partsWorld hv
 clear hd hst hlo hre hwr hme hs ok hrd hv hse
 have WP : Hid (allP m ↔ orderP m ∧ trueP m ∧ keptP m ∧ wholeP m ∧ sameP m) := Iff.rfl
 generalize orderP m = P0 at *
 generalize trueP m = P1 at *
 generalize keptP m = P2 at *
 generalize wholeP m = P3 at *
 generalize sameP m = P4 at *
 generalize allP m = PQ at *
 obtain ⟨⟨ds, cop⟩, stores, lost, ⟨eras, trim⟩, writers, mends, readers, sent, torn⟩ := m
 simp only at *
 have B : Below w.heap.size w (w.alloc (.cells #[.slice da ds.length dc, .int .i64 cop, .slice sa stores.length sc, .slice la lost.length lc, .slice ea eras.length ec, .int .i64 trim, .slice wa writers.length wc, .slice na mends.length nc, .slice ra readers.length rc', .slice ta sent.length tc, .bool torn] 47)) := (Below.refl _ _).alloc (Nat.le_refl _) _
 have X := Bx.new w [.slice da ds.length dc, .int .i64 cop, .slice sa stores.length sc, .slice la lost.length lc, .slice ea eras.length ec, .int .i64 trim, .slice wa writers.length wc, .slice na mends.length nc, .slice ra readers.length rc', .slice ta sent.length tc, .bool torn] 47
 go_enter Tryz.func22, Tryz.ntmps22
 go_wp2_with fail
 generalize w.alloc (.cells #[.slice da ds.length dc, .int .i64 cop, .slice sa stores.length sc, .slice la lost.length lc, .slice ea eras.length ec, .int .i64 trim, .slice wa writers.length wc, .slice na mends.length nc, .slice ra readers.length rc', .slice ta sent.length tc, .bool torn] 47) = w0 at *
 refine (dU C0 _ B).mono ?_
 rintro e w1 ⟨⟨q, rfl, hq⟩, b⟩
 replace B := bT B b
 replace X := X.below b
 clear C0 b
 cases q
 ·have R := dH (show RetB PQ (.returned (.bool false)) from RetB.no fun h => by have := hq.2 ((dU WP).1 h).1; cases this)
  clear hq WP X C1 C2 C3 C4
  go_wp2
  go_ret
  exact ⟨dU R, B⟩
 have p0 := dH (hq.1 rfl)
 clear hq
 have k0 := X 0 _ rfl
 have k1 := X 1 _ rfl
 have k2 := X 2 _ rfl
 have k3 := X 3 _ rfl
 have k4 := X 4 _ rfl
 have k5 := X 5 _ rfl
 have k6 := X 6 _ rfl
 have k7 := X 7 _ rfl
 have k8 := X 8 _ rfl
 have k9 := X 9 _ rfl
 have k10 := X 10 _ rfl
 go_wp2_with fail
 refine (dU C1 _ B).mono ?_
 rintro e w2 ⟨⟨q, rfl, hq⟩, b⟩
 replace B := bT B b
 replace X := X.below b
 clear C1 b k0 k1 k2 k3 k4 k5 k6 k7 k8 k9 k10
 cases q
 ·have R := dH (show RetB PQ (.returned (.bool false)) from RetB.no fun h => by have := hq.2 ((dU WP).1 h).2.1; cases this)
  clear hq WP X C2 C3 C4
  go_wp2
  go_ret
  exact ⟨dU R, B⟩
 have p1 := dH (hq.1 rfl)
 clear hq
 have k0 := X 0 _ rfl
 have k1 := X 1 _ rfl
 have k2 := X 2 _ rfl
 have k3 := X 3 _ rfl
 have k4 := X 4 _ rfl
 have k5 := X 5 _ rfl
 have k6 := X 6 _ rfl
 have k7 := X 7 _ rfl
 have k8 := X 8 _ rfl
 have k9 := X 9 _ rfl
 have k10 := X 10 _ rfl
 go_wp2_with fail
 refine (dU C2 _ B).mono ?_
 rintro e w3 ⟨⟨q, rfl, hq⟩, b⟩
 replace B := bT B b
 replace X := X.below b
 clear C2 b k0 k1 k2 k3 k4 k5 k6 k7 k8 k9 k10
 cases q
 ·have R := dH (show RetB PQ (.returned (.bool false)) from RetB.no fun h => by have := hq.2 ((dU WP).1 h).2.2.1; cases this)
  clear hq WP X C3 C4
  go_wp2
  go_ret
  exact ⟨dU R, B⟩
 have p2 := dH (hq.1 rfl)
 clear hq
 have k0 := X 0 _ rfl
 have k1 := X 1 _ rfl
 have k2 := X 2 _ rfl
 have k3 := X 3 _ rfl
 have k4 := X 4 _ rfl
 have k5 := X 5 _ rfl
 have k6 := X 6 _ rfl
 have k7 := X 7 _ rfl
 have k8 := X 8 _ rfl
 have k9 := X 9 _ rfl
 have k10 := X 10 _ rfl
 go_wp2_with fail
 refine (dU C3 _ B).mono ?_
 rintro e w4 ⟨⟨q, rfl, hq⟩, b⟩
 replace B := bT B b
 replace X := X.below b
 clear C3 b k0 k1 k2 k3 k4 k5 k6 k7 k8 k9 k10
 cases q
 ·have R := dH (show RetB PQ (.returned (.bool false)) from RetB.no fun h => by have := hq.2 ((dU WP).1 h).2.2.2.1; cases this)
  clear hq WP X C4
  go_wp2
  go_ret
  exact ⟨dU R, B⟩
 have p3 := dH (hq.1 rfl)
 clear hq
 have k0 := X 0 _ rfl
 have k1 := X 1 _ rfl
 have k2 := X 2 _ rfl
 have k3 := X 3 _ rfl
 have k4 := X 4 _ rfl
 have k5 := X 5 _ rfl
 have k6 := X 6 _ rfl
 have k7 := X 7 _ rfl
 have k8 := X 8 _ rfl
 have k9 := X 9 _ rfl
 have k10 := X 10 _ rfl
 go_wp2_with fail
 refine (dU C4 _ B).mono ?_
 rintro e w5 ⟨⟨q, rfl, hq⟩, b⟩
 replace B := bT B b
 replace X := X.below b
 clear C4 b k0 k1 k2 k3 k4 k5 k6 k7 k8 k9 k10
 have R := dH (show RetB PQ (.returned (.bool q)) from ⟨q, rfl, hq.trans ⟨fun h => (dU WP).2 ⟨dU p0, dU p1, dU p2, dU p3, h⟩, fun h => ((dU WP).1 h).2.2.2.2⟩⟩)
 clear hq WP X p0 p1 p2 p3
 cases q
 all_goals
  go_wp2
  go_ret
  exact ⟨dU R, B⟩
theorem bothJudgeAll_ (m0 : Wo) (ok0 : okWorld m0) (hs0 : sizWorld m0 ≤ 1048576) : ∃ (s0 : Bool), (∀ W v0, RdWorld v0 m0 W → Calls Tryz.prog 22 #[v0] W fun e w' => e = .returned (.bool s0) ∧ Below W.heap.size W w') ∧ (∀ W v0, RdWorld v0 m0 W → Calls Tryz.prog 23 #[v0] W fun e w' => e = .returned (.bool s0) ∧ Below W.heap.size W w') :=
 ⟨bq (allP m0), fun W v0 h => (specAll_any v0 m0 W ok0 hs0 h).mono fun e w' ⟨h1, h2⟩ => ⟨h1.bq, h2⟩, fun W v0 h => (implAll_any v0 m0 W ok0 hs0 h).mono fun e w' ⟨h1, h2⟩ => ⟨h1.bq, h2⟩⟩
end Go.Proofs.YtekgkjomdpjkbaaGreat
