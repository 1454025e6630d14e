/- JudgeKept: both answers (tools/mkq14.py). -/
import Derived.Test.YtekgkjomdpjkbaaGreatJgP
import Derived.Test.YtekgkjomdpjkbaaGreatGk12
import Derived.Deep.RegionHeld3
namespace Go.Proofs.YtekgkjomdpjkbaaGreat
open Go.ChangeShapes Go.WideShapes Go.ChangeAt Go.RowKit
set_option linter.unusedVariables false
set_option linter.unusedSimpArgs false
set_option maxRecDepth 100000

theorem judgeKept1 (w : World) (m : Wo) (ok : okWorld m) (hs : sizWorld m ≤ 1048576) (h : woP m) : Judge1 w m ⟨#[107, 101, 112, 116]⟩ (m.torn = true ∨ ∀ r ∈ m.readers, keptR m.sent m.reg.trim r) := fun W bx b mb hb hc hm ⟨c5, rv, tv, c8, c9, hr, ht⟩ => by
 have hrl : ∀ r ∈ m.readers, r.out.length ≤ 1048576 := fun r hr => rrOut_le (by unfold sizWorld at hs; omega) hr
 have C := keptC_any bx rv tv m.readers m.sent m.reg.trim W c8 c9 c5 hr ht (fun r hr => ⟨hrl r hr, plsOf ok r hr, smallOf h r hr⟩) (fun s hs => (ok.2.2.2.2.2.2.2 s hs).1)
 cases ht' : m.torn with
 | false =>
  rw [ht'] at hm
  exact (judged1_found ⟨#[107, 101, 112, 116]⟩ mb b 5 2 121 _ _ _ W (by intro args w; rfl) hc hm (by kernel_rfl) C).mono fun e w' ⟨h1, h2⟩ => ⟨h1.to_iff ⟨.inr, fun q => q.resolve_left (by simp)⟩, h2⟩
 | true =>
  rw [ht'] at hm
  exact (judged1_none ⟨#[107, 101, 112, 116]⟩ mb b 5 _ W hc hm (by kernel_rfl)).mono fun e w' ⟨h1, h2⟩ => ⟨h1.to_iff ⟨fun _ => .inl rfl, fun _ => trivial⟩, h2⟩
theorem judgedKept_any (v nv' : Value) (m : Wo) (w : World) (ok : okWorld m) (hs : sizWorld m ≤ 1048576) (hv : RdWorld v m w) (hn : Txs w nv' [⟨#[107, 101, 112, 116]⟩]) :
  Calls Tryz.prog 42 #[v, nv'] w fun e w' => RetB (keptP m) e ∧ Below w.heap.size w w' :=
 (judgedG_any v nv' m [⟨#[107, 101, 112, 116]⟩] (fun _ => m.torn = true ∨ ∀ r ∈ m.readers, keptR m.sent m.reg.trim r) w ok hs hv hn fun h z hz => by
  obtain rfl : z = ⟨#[107, 101, 112, 116]⟩ := by simpa using hz
  exact judgeKept1 w m ok hs h).mono fun e w' ⟨h1, h2⟩ => ⟨h1.to_iff ⟨fun h => ⟨h.1, h.2 ⟨#[107, 101, 112, 116]⟩ (by simp)⟩, fun h => ⟨h.1, fun _ _ => h.2⟩⟩, h2⟩
set_option maxHeartbeats 4000000 in
theorem implKept_any (v : Value) (m : Wo) (w : World) (ok : okWorld m) (hs : sizWorld m ≤ 1048576) (hv : RdWorld v m w) :
  Calls Tryz.prog 17 #[v] w fun e w' => RetB (keptP m) e ∧ Below w.heap.size w w' := by
 have CJ := dH fun W (hb : Below w.heap.size w W) nv' (hn : Txs W nv' [⟨#[107, 101, 112, 116]⟩]) => judgedKept_any v nv' m W ok hs (hv.below hb) hn
 obtain ⟨da, dc, sa, sc, la, lc, ea, ec, wa, wc, na, nc, ra, rc', ta, tc, rfl, hd, hst, hlo, hre, hwr, hme, hrd, hse⟩ := partsWorld hv
 clear hd hst hlo hre hwr hme hse hs ok hrd hv
 generalize keptP m = PQ at *
 obtain ⟨⟨ds, cop⟩, stores, lost, ⟨eras, trim⟩, writers, mends, readers, sent, torn⟩ := m
 simp only at *
 have B0 : Below w.heap.size w (w.alloc (.cells #[.slice da ds.length dc, .int .i64 cop, .slice sa stores.length sc, .slice la lost.length lc, .slice ea eras.length ec, .int .i64 trim, .slice wa writers.length wc, .slice na mends.length nc, .slice ra readers.length rc', .slice ta sent.length tc, .bool torn] 47)) := (Below.refl _ _).alloc (Nat.le_refl _) _
 have es : (w.alloc (.cells #[.slice da ds.length dc, .int .i64 cop, .slice sa stores.length sc, .slice la lost.length lc, .slice ea eras.length ec, .int .i64 trim, .slice wa writers.length wc, .slice na mends.length nc, .slice ra readers.length rc', .slice ta sent.length tc, .bool torn] 47)).heap.size = w.heap.size + 1 := by simp
 have N1 := names1 (w.alloc (.cells #[.slice da ds.length dc, .int .i64 cop, .slice sa stores.length sc, .slice la lost.length lc, .slice ea eras.length ec, .int .i64 trim, .slice wa writers.length wc, .slice na mends.length nc, .slice ra readers.length rc', .slice ta sent.length tc, .bool torn] 47)) ⟨#[107, 101, 112, 116]⟩
 rw [es] at N1
 replace N1 := dH N1
 have B1 := dH (bT B0 ((Below.refl _ _).alloc (Nat.le_refl _) (.cells #[.string ⟨#[107, 101, 112, 116]⟩] 9)))
 clear es B0
 go_enter Tryz.func17, Tryz.ntmps17
 go_wp2_with fail
 refine (dU CJ _ (dU B1) _ (dU N1)).mono ?_
 rintro e w1 ⟨⟨q, rfl, h⟩, b1⟩
 have R := dH (show RetB PQ (.returned (.bool q)) from ⟨q, rfl, h⟩)
 have B2 := bT (dU B1) b1
 clear CJ h b1 B1 N1
 cases q
 all_goals
  go_wp2
  go_ret
  exact ⟨dU R, B2⟩
theorem bothJudgeKept_ (m0 : Wo) (ok0 : okWorld m0) (hs0 : sizWorld m0 ≤ 1048576) : ∃ (s0 : Bool), (∀ W v0, RdWorld v0 m0 W → Calls Tryz.prog 16 #[v0] W fun e w' => e = .returned (.bool s0) ∧ Below W.heap.size W w') ∧ (∀ W v0, RdWorld v0 m0 W → Calls Tryz.prog 17 #[v0] W fun e w' => e = .returned (.bool s0) ∧ Below W.heap.size W w') :=
 ⟨bq (keptP m0), fun W v0 h => (specKept_any v0 m0 W ok0 hs0 h).mono fun e w' ⟨h1, h2⟩ => ⟨h1.bq, h2⟩, fun W v0 h => (implKept_any v0 m0 W ok0 hs0 h).mono fun e w' ⟨h1, h2⟩ => ⟨h1.bq, h2⟩⟩
end Go.Proofs.YtekgkjomdpjkbaaGreat
