/- impl's copy of a new world. -/
import Derived.Test.YtodfgehicpejgaaGreatDoorGk182
import Derived.Test.YtodfgehicpejgaaGreatDoorImGc
import Derived.Test.YtodfgehicpejgaaGreatDoorGk162
import Derived.Deep.RegionHeld3
import Derived.Deep.DeepCutAuto
namespace Go.Proofs.YtodfgehicpejgaaGreatDoor
open Go.ChangeShapes Go.WideShapes Go.ChangeAt Go.RowKit
set_option linter.unusedVariables false
set_option linter.unusedSimpArgs false
set_option maxRecDepth 100000

theorem copiedRg0_any (a : Option Addr) (c : Nat) (w : World) (h : c ≤ 9223372036854775807) :
    Calls Tryz.prog 40 #[.agg #[.slice a 0 c, .int .i64 0]] w fun e w' => (∃ b d, e = .returned (.agg #[.slice b 0 d, .int .i64 0]) ∧ d ≤ 9223372036854775807) ∧ Below w.heap.size w w' := by
  refine (copiedRg_any (.agg #[.slice a 0 c, .int .i64 0]) ⟨[], 0⟩ w ⟨_, rfl, [], rfl, ⟨by simp, _, _, rfl, ⟨by simp, h⟩, .inl rfl⟩, fun p hp => by cases hp⟩ (by simp [sizRegister, sizEraS, sumN])).mono ?_
  rintro e w1 ⟨⟨u, rfl, rs, hm, hA, -⟩, hb⟩
  obtain rfl : rs = [] := List.map_eq_nil_iff.1 hm
  obtain ⟨-, b, d, rfl, hd, -⟩ := ApR.own elemR hA
  exact ⟨⟨b, d, rfl, hd.2⟩, hb⟩
theorem cloneN0_any (v : Value) (w : World) (hv : Ns w v []) :
    Calls Tryz.prog 16 #[v] w fun e w' => (∃ b d, e = .returned (.slice b 0 d) ∧ d ≤ 9223372036854775807) ∧ Below w.heap.size w w' := by
  refine (cloneN_any v [] w hv (by simp)).mono ?_
  rintro e w1 ⟨⟨u, rfl, -, b, d, rfl, hd, -⟩, hb⟩
  exact ⟨⟨b, d, rfl, hd.2⟩, hb⟩
theorem EmS.lk {W W' : World} {g n : Nat} (h : EmS W g n) (q : W'.heap[g]? = W.heap[g]?) : EmS W' g n := by
  obtain ⟨f, h1, h2⟩ := h
  exact ⟨f, fun i hi j u hu => ⟨(World.cell?_of_block (a := ⟨g, 0 + i * 3 + j, none⟩) q).trans (h1 i hi j u hu).1, (World.frozen?_of_block (a := ⟨g, 0 + i * 3 + j, none⟩) q).trans (h1 i hi j u hu).2⟩, h2⟩
theorem EmR.lk {W W' : World} {g n j : Nat} (h : EmR W g n j) (q : W'.heap[g]? = W.heap[g]?) : EmR W' g n j := by
  obtain ⟨f, h1, h2⟩ := h
  exact ⟨f, fun i hi j u hu => ⟨(World.cell?_of_block (a := ⟨g, 0 + i * 3 + j, none⟩) q).trans (h1 i hi j u hu).1, (World.frozen?_of_block (a := ⟨g, 0 + i * 3 + j, none⟩) q).trans (h1 i hi j u hu).2⟩, h2⟩
theorem OwnN.lkN {W W' : World} {base : Nat} {v : Value} {bs : List Int} (h : OwnN W base v bs) (q : ∀ k, base ≤ k → W'.heap[k]? = W.heap[k]?) : OwnN W' base v bs := by
  obtain ⟨h1, a, cap, rfl, h2, h3⟩ := h
  refine ⟨h1, a, cap, rfl, h2, ?_⟩
  rcases h3 with h | ⟨b, off, rfl, hb, hc⟩
  · exact .inl h
  · exact .inr ⟨b, off, rfl, hb, fun i hi => ⟨(World.cell?_of_block (a := ⟨b, off + i, none⟩) (q b hb)).trans (hc i hi).1, (World.frozen?_of_block (a := ⟨b, off + i, none⟩) (q b hb)).trans (hc i hi).2⟩⟩
theorem offSet {w w' : World} {c o : Nat} (h : ∀ k, k ≠ c → w'.heap[k]? = w.heap[k]?) (u : Value) : ∀ k, k ≠ c → (w'.setCell ⟨c, o, none⟩ u).heap[k]? = w.heap[k]? := fun k hk => (Below.heap_setCell _ _ _ k (by simp only; omega)).trans (h k hk)
theorem rdNew {W : World} {ds : List Int} (cop : Int) {dv : Value} {g1 g6 d2 d3 d4 d5 d7 : Nat} {b2 b3 b4 b5 b7 : Option Addr} (D : Ns W dv ds) (S : EmS W g1 ds.length) (hl : ds.length ≤ 8) (R : EmR W g6 2 2)
    (h2 : d2 ≤ 9223372036854775807) (h3 : d3 ≤ 9223372036854775807) (h4 : d4 ≤ 9223372036854775807) (h5 : d5 ≤ 9223372036854775807) (h7 : d7 ≤ 9223372036854775807) :
    RdWorld (.agg #[dv, .int .i64 cop, .slice (some ⟨g1, 0, none⟩) ds.length ds.length, .slice b2 0 d2, .slice b3 0 d3, .int .i64 0, .slice b4 0 d4, .slice b5 0 d5, .slice (some ⟨g6, 0, none⟩) 2 2, .slice b7 0 d7, .bool false]) (newW ds cop) W :=
  ⟨_, _, _, _, _, _, _, _, rfl, D, S.rd (by omega), ⟨by simp [newW], _, _, rfl, ⟨by simp [newW], h2⟩, .inl rfl⟩, ⟨[], rfl, ⟨by simp, _, _, rfl, ⟨by simp, h3⟩, .inl rfl⟩, fun p hp => by cases hp⟩,
    ⟨[], rfl, ⟨by simp, _, _, rfl, ⟨by simp, h4⟩, .inl rfl⟩, fun p hp => by cases hp⟩, ⟨[], rfl, ⟨by simp, _, _, rfl, ⟨by simp, h5⟩, .inl rfl⟩, fun p hp => by cases hp⟩, R.rd (by omega), ⟨by simp [newW], _, _, rfl, ⟨by simp [newW], h7⟩, .inl rfl⟩⟩
set_option maxHeartbeats 16000000 in
theorem copiedNew_any (v : Value) (ds : List Int) (cop : Int) (w : World) (hv : RdWorld v (newW ds cop) w) (hl : ds.length ≤ 8) :
    Calls Tryz.prog 20 #[v] w fun e w' => (∃ u, e = .returned u ∧ ∀ W : World, (∀ k, w.heap.size ≤ k → W.heap[k]? = w'.heap[k]?) → RdWorld u (newW ds cop) W) ∧ Below w.heap.size w w' := by
  obtain ⟨da, dc, sa, sc, la, lc, ea, ec, wa, wc, na, nc, ra, rc', ta, tc, rfl, hd, hst, hlo, hre, hwr, hme, hrd, hse⟩ := partsWorld hv
  clear hv
  simp only [newW, List.length_replicate, List.length_nil, List.length_cons, Nat.zero_add, Nat.reduceAdd] at *
  have hec : ec ≤ 9223372036854775807 := by
    obtain ⟨rs, hm, ⟨-, a', c', e, h, -⟩, -⟩ := hre
    obtain rfl : rs = [] := List.map_eq_nil_iff.1 hm
    cases e
    exact h.2
  have ba : ∀ (w : World) o, Below w.heap.size w (w.alloc o) := fun w o => (Below.refl _ _).alloc (Nat.le_refl _) o
  have CD := dH fun W (hb : Below w.heap.size w W) => cloneN_any _ ds W (hd.below hb) (by omega)
  have CS := dH fun W (hb : Below w.heap.size w W) => copiedStores_any _ ds.length W (hst.below hb) (by omega)
  have CL := dH fun W (hb : Below w.heap.size w W) => cloneN0_any _ W (hlo.below hb)
  have CG := dH fun W => copiedRg0_any ea ec W hec
  have CW := dH fun W => copiedWriters0_any wa wc W
  have CM := dH fun W => copiedMends0_any na nc W
  have CR := dH fun W (hb : Below w.heap.size w W) => copiedReaders_any _ 2 W (RdReaderS.below hrd hb) (by omega)
  have CE := dH fun W (hb : Below w.heap.size w W) => cloneSe0_any _ W (Rw.below hse hb)
  have FIN : Hid (∀ (W : World) dv g1 g6 d2 d3 d4 d5 d7 b2 b3 b4 b5 b7, Ns W dv ds → EmS W g1 ds.length → EmR W g6 2 2 → d2 ≤ 9223372036854775807 → d3 ≤ 9223372036854775807 → d4 ≤ 9223372036854775807 → d5 ≤ 9223372036854775807 → d7 ≤ 9223372036854775807 →
    RdWorld (.agg #[dv, .int .i64 cop, .slice (some ⟨g1, 0, none⟩) ds.length ds.length, .slice b2 0 d2, .slice b3 0 d3, .int .i64 0, .slice b4 0 d4, .slice b5 0 d5, .slice (some ⟨g6, 0, none⟩) 2 2, .slice b7 0 d7, .bool false]) (newW ds cop) W) := fun W dv g1 g6 d2 d3 d4 d5 d7 b2 b3 b4 b5 b7 h1 h2 h3 h4 h5 h6 h7 h8 => rdNew cop h1 h2 hl h3 h4 h5 h6 h7 h8
  change Hid (∀ (W : World) dv g1 g6 d2 d3 d4 d5 d7 b2 b3 b4 b5 b7, Ns W dv ds → EmS W g1 ds.length → EmR W g6 2 2 → d2 ≤ 9223372036854775807 → d3 ≤ 9223372036854775807 → d4 ≤ 9223372036854775807 → d5 ≤ 9223372036854775807 → d7 ≤ 9223372036854775807 →
    RdWorld (.agg #[dv, .int .i64 cop, .slice (some ⟨g1, 0, none⟩) ds.length ds.length, .slice b2 0 d2, .slice b3 0 d3, .int .i64 0, .slice b4 0 d4, .slice b5 0 d5, .slice (some ⟨g6, 0, none⟩) 2 2, .slice b7 0 d7, .bool false]) (newW ds cop) W) at FIN
  show Calls Tryz.prog 20 _ w fun e w' => (∃ u, e = .returned u ∧ ∀ W : World, (∀ k, w.heap.size ≤ k → W.heap[k]? = w'.heap[k]?) → RdWorld u (newW ds cop) W) ∧ Below w.heap.size w w'
  clear hd hst hlo hre hwr hme hrd hse
  generalize RdWorld = RW at *
  generalize newW ds cop = M at *
  have HN := dH hl
  clear hl
  have hX := Bx.new w [.slice da ds.length dc, .int .i64 cop, .slice sa ds.length sc, .slice la 0 lc, .slice ea 0 ec, .int .i64 0, .slice wa 0 wc, .slice na 0 nc, .slice ra 2 rc', .slice ta 0 tc, .bool false] 37
  have X0 := hX.below (ba _ (.cells #[.slice none 0 0, .int .i64 0, .slice none 0 0, .slice none 0 0, .slice none 0 0, .int .i64 0, .slice none 0 0, .slice none 0 0, .slice none 0 0, .slice none 0 0, .bool false] 37))
  have Y0 := BxZ.new (B := w.heap.size) (w.alloc (.cells #[.slice da ds.length dc, .int .i64 cop, .slice sa ds.length sc, .slice la 0 lc, .slice ea 0 ec, .int .i64 0, .slice wa 0 wc, .slice na 0 nc, .slice ra 2 rc', .slice ta 0 tc, .bool false] 37)) [.slice none 0 0, .int .i64 0, .slice none 0 0, .slice none 0 0, .slice none 0 0, .int .i64 0, .slice none 0 0, .slice none 0 0, .slice none 0 0, .slice none 0 0, .bool false] 37 (by simp)
  have B0 := bT (ba w (.cells #[.slice da ds.length dc, .int .i64 cop, .slice sa ds.length sc, .slice la 0 lc, .slice ea 0 ec, .int .i64 0, .slice wa 0 wc, .slice na 0 nc, .slice ra 2 rc', .slice ta 0 tc, .bool false] 37)) (ba _ (.cells #[.slice none 0 0, .int .i64 0, .slice none 0 0, .slice none 0 0, .slice none 0 0, .int .i64 0, .slice none 0 0, .slice none 0 0, .slice none 0 0, .slice none 0 0, .bool false] 37))
  rw [show (w.alloc (.cells #[.slice da ds.length dc, .int .i64 cop, .slice sa ds.length sc, .slice la 0 lc, .slice ea 0 ec, .int .i64 0, .slice wa 0 wc, .slice na 0 nc, .slice ra 2 rc', .slice ta 0 tc, .bool false] 37)).heap.size = w.heap.size + 1 from by simp] at Y0
  have e2 : Hid (((w.alloc (.cells #[.slice da ds.length dc, .int .i64 cop, .slice sa ds.length sc, .slice la 0 lc, .slice ea 0 ec, .int .i64 0, .slice wa 0 wc, .slice na 0 nc, .slice ra 2 rc', .slice ta 0 tc, .bool false] 37)).alloc (.cells #[.slice none 0 0, .int .i64 0, .slice none 0 0, .slice none 0 0, .slice none 0 0, .int .i64 0, .slice none 0 0, .slice none 0 0, .slice none 0 0, .slice none 0 0, .bool false] 37)).heap.size = w.heap.size + 2) := by simp [Hid]
  clear hX
  go_enter Tryz.func20, Tryz.ntmps20
  go_upto_region 1 with fail
  generalize (w.alloc (.cells #[.slice da ds.length dc, .int .i64 cop, .slice sa ds.length sc, .slice la 0 lc, .slice ea 0 ec, .int .i64 0, .slice wa 0 wc, .slice na 0 nc, .slice ra 2 rc', .slice ta 0 tc, .bool false] 37)).alloc (.cells #[.slice none 0 0, .int .i64 0, .slice none 0 0, .slice none 0 0, .slice none 0 0, .int .i64 0, .slice none 0 0, .slice none 0 0, .slice none 0 0, .slice none 0 0, .bool false] 37) = w0 at *
  have hs0 := dU e2
  have bd : Below w0.heap.size w0 w0.drew := (Below.refl _ _).drew
  have HX : Hid (∀ (V W : World), Below w0.heap.size w0 V → (∀ k, k ≠ w.heap.size + 1 → W.heap[k]? = V.heap[k]?) → (W.cell? ⟨w.heap.size, 0, none⟩ = some (.slice da ds.length dc) ∧ W.cell? ⟨w.heap.size, 1, none⟩ = some (.int .i64 cop)) ∧ W.cell? ⟨w.heap.size, 2, none⟩ = some (.slice sa ds.length sc) ∧ W.cell? ⟨w.heap.size, 3, none⟩ = some (.slice la 0 lc) ∧ (W.cell? ⟨w.heap.size, 4, none⟩ = some (.slice ea 0 ec) ∧ W.cell? ⟨w.heap.size, 5, none⟩ = some (.int .i64 0)) ∧ W.cell? ⟨w.heap.size, 6, none⟩ = some (.slice wa 0 wc) ∧ W.cell? ⟨w.heap.size, 7, none⟩ = some (.slice na 0 nc) ∧ W.cell? ⟨w.heap.size, 8, none⟩ = some (.slice ra 2 rc') ∧ W.cell? ⟨w.heap.size, 9, none⟩ = some (.slice ta 0 tc) ∧ W.cell? ⟨w.heap.size, 10, none⟩ = some (.bool false)) := fun V W hV q => by
    have X := (X0.below hV).off q (by omega)
    exact ⟨⟨X 0 _ rfl, X 1 _ rfl⟩, X 2 _ rfl, X 3 _ rfl, ⟨X 4 _ rfl, X 5 _ rfl⟩, X 6 _ rfl, X 7 _ rfl, X 8 _ rfl, X 9 _ rfl, X 10 _ rfl⟩
  have HZ : Hid (∀ W, Below w0.heap.size w0 W → BxZ W w.heap.size (w.heap.size + 1) [.slice none 0 0, .int .i64 0, .slice none 0 0, .slice none 0 0, .slice none 0 0, .int .i64 0, .slice none 0 0, .slice none 0 0, .slice none 0 0, .slice none 0 0, .bool false]) := fun W hW => Y0.below hW
  clear X0 Y0 e2
  go_wp2_with fail
  -- WALK
  refine wp_region_noPanic ?_
  refine wp_region_held_drew (S := fun W => (W.cell? ⟨w.heap.size, 0, none⟩ = some (.slice da ds.length dc) ∧ W.cell? ⟨w.heap.size, 1, none⟩ = some (.int .i64 cop)) ∧ W.cell? ⟨w.heap.size, 2, none⟩ = some (.slice sa ds.length sc) ∧ W.cell? ⟨w.heap.size, 3, none⟩ = some (.slice la 0 lc) ∧ (W.cell? ⟨w.heap.size, 4, none⟩ = some (.slice ea 0 ec) ∧ W.cell? ⟨w.heap.size, 5, none⟩ = some (.int .i64 0)) ∧ W.cell? ⟨w.heap.size, 6, none⟩ = some (.slice wa 0 wc) ∧ W.cell? ⟨w.heap.size, 7, none⟩ = some (.slice na 0 nc) ∧ W.cell? ⟨w.heap.size, 8, none⟩ = some (.slice ra 2 rc') ∧ W.cell? ⟨w.heap.size, 9, none⟩ = some (.slice ta 0 tc) ∧ W.cell? ⟨w.heap.size, 10, none⟩ = some (.bool false)) (by kernel_rfl) (by exact dU HX _ _ bd (fun _ _ => rfl)) (fun hHeld => ?_)
  generalize w0.drew = wd at *
  refine tY 0 (v := ?_) rfl (by kernel_rfl) (.inl ⟨by rfl, ?_⟩) ‹_› ?_
  rotate_left 1
  · intro w hSw
    (try dsimp only at hSw)
    first | (go_simp; done) | (go_simp; with_reducible rfl)
  try simp only [Act.put, sA, sB, sC]
  refine tY 1 (v := ?_) rfl (by kernel_rfl) (.inl ⟨by rfl, ?_⟩) ‹_› ?_
  rotate_left 1
  · intro w hSw
    (try dsimp only at hSw)
    first | (go_simp; done) | (go_simp; with_reducible rfl)
  try simp only [Act.put, sA, sB, sC]
  refine tY 2 (v := ?_) rfl (by kernel_rfl) (.inl ⟨by rfl, ?_⟩) ‹_› ?_
  rotate_left 1
  · intro w hSw
    (try dsimp only at hSw)
    first | (go_simp; done) | (go_simp; with_reducible rfl)
  try simp only [Act.put, sA, sB, sC]
  refine tY 4 (v := ?_) rfl (by kernel_rfl) (.inl ⟨by rfl, ?_⟩) ‹_› ?_
  rotate_left 1
  · intro w hSw
    (try dsimp only at hSw)
    first | (go_simp; done) | (go_simp; with_reducible rfl)
  try simp only [Act.put, sA, sB, sC]
  refine tY 5 (v := ?_) rfl (by kernel_rfl) (.inl ⟨by rfl, ?_⟩) ‹_› ?_
  rotate_left 1
  · intro w hSw
    (try dsimp only at hSw)
    first | (go_simp; done) | (go_simp; with_reducible rfl)
  try simp only [Act.put, sA, sB, sC]
  refine tY 6 (v := ?_) rfl (by kernel_rfl) (.inl ⟨by rfl, ?_⟩) ‹_› ?_
  rotate_left 1
  · intro w hSw
    (try dsimp only at hSw)
    first | (go_simp; done) | (go_simp; with_reducible rfl)
  try simp only [Act.put, sA, sB, sC]
  refine tY 8 (v := ?_) rfl (by kernel_rfl) (.inl ⟨by rfl, ?_⟩) ‹_› ?_
  rotate_left 1
  · intro w hSw
    (try dsimp only at hSw)
    first | (go_simp; done) | (go_simp; with_reducible rfl)
  try simp only [Act.put, sA, sB, sC]
  refine tY 9 (v := ?_) rfl (by kernel_rfl) (.inl ⟨by rfl, ?_⟩) ‹_› ?_
  rotate_left 1
  · intro w hSw
    (try dsimp only at hSw)
    first | (go_simp; done) | (go_simp; with_reducible rfl)
  try simp only [Act.put, sA, sB, sC]
  refine tY 11 (v := ?_) rfl (by kernel_rfl) (.inl ⟨by rfl, ?_⟩) ‹_› ?_
  rotate_left 1
  · intro w hSw
    (try dsimp only at hSw)
    first | (go_simp; done) | (go_simp; with_reducible rfl)
  try simp only [Act.put, sA, sB, sC]
  refine tY 12 (v := ?_) rfl (by kernel_rfl) (.inl ⟨by rfl, ?_⟩) ‹_› ?_
  rotate_left 1
  · intro w hSw
    (try dsimp only at hSw)
    first | (go_simp; done) | (go_simp; with_reducible rfl)
  try simp only [Act.put, sA, sB, sC]
  refine tY 14 (v := ?_) rfl (by kernel_rfl) (.inl ⟨by rfl, ?_⟩) ‹_› ?_
  rotate_left 1
  · intro w hSw
    (try dsimp only at hSw)
    first | (go_simp; done) | (go_simp; with_reducible rfl)
  try simp only [Act.put, sA, sB, sC]
  refine tY 15 (v := ?_) rfl (by kernel_rfl) (.inl ⟨by rfl, ?_⟩) ‹_› ?_
  rotate_left 1
  · intro w hSw
    (try dsimp only at hSw)
    first | (go_simp; done) | (go_simp; with_reducible rfl)
  try simp only [Act.put, sA, sB, sC]
  refine tY 17 (v := ?_) rfl (by kernel_rfl) (.inl ⟨by rfl, ?_⟩) ‹_› ?_
  rotate_left 1
  · intro w hSw
    (try dsimp only at hSw)
    first | (go_simp; done) | (go_simp; with_reducible rfl)
  try simp only [Act.put, sA, sB, sC]
  refine tY 18 (v := ?_) rfl (by kernel_rfl) (.inl ⟨by rfl, ?_⟩) ‹_› ?_
  rotate_left 1
  · intro w hSw
    (try dsimp only at hSw)
    first | (go_simp; done) | (go_simp; with_reducible rfl)
  try simp only [Act.put, sA, sB, sC]
  refine tY 20 (v := ?_) rfl (by kernel_rfl) (.inl ⟨by rfl, ?_⟩) ‹_› ?_
  rotate_left 1
  · intro w hSw
    (try dsimp only at hSw)
    first | (go_simp; done) | (go_simp; with_reducible rfl)
  try simp only [Act.put, sA, sB, sC]
  refine tY 21 (v := ?_) rfl (by kernel_rfl) (.inl ⟨by rfl, ?_⟩) ‹_› ?_
  rotate_left 1
  · intro w hSw
    (try dsimp only at hSw)
    first | (go_simp; done) | (go_simp; with_reducible rfl)
  try simp only [Act.put, sA, sB, sC]
  refine tY 23 (v := ?_) rfl (by kernel_rfl) (.inl ⟨by rfl, ?_⟩) ‹_› ?_
  rotate_left 1
  · intro w hSw
    (try dsimp only at hSw)
    first | (go_simp; done) | (go_simp; with_reducible rfl)
  try simp only [Act.put, sA, sB, sC]
  refine tY 24 (v := ?_) rfl (by kernel_rfl) (.inl ⟨by rfl, ?_⟩) ‹_› ?_
  rotate_left 1
  · intro w hSw
    (try dsimp only at hSw)
    first | (go_simp; done) | (go_simp; with_reducible rfl)
  try simp only [Act.put, sA, sB, sC]
  refine tY 26 (v := ?_) rfl (by kernel_rfl) (.inl ⟨by rfl, ?_⟩) ‹_› ?_
  rotate_left 1
  · intro w hSw
    (try dsimp only at hSw)
    first | (go_simp; done) | (go_simp; with_reducible rfl)
  try simp only [Act.put, sA, sB, sC]
  refine tY 27 (v := ?_) rfl (by kernel_rfl) (.inl ⟨by rfl, ?_⟩) ‹_› ?_
  rotate_left 1
  · intro w hSw
    (try dsimp only at hSw)
    first | (go_simp; done) | (go_simp; with_reducible rfl)
  try simp only [Act.put, sA, sB, sC]
  refine tY 29 (v := ?_) rfl (by kernel_rfl) (.inl ⟨by rfl, ?_⟩) ‹_› ?_
  rotate_left 1
  · intro w hSw
    (try dsimp only at hSw)
    first | (go_simp; done) | (go_simp; with_reducible rfl)
  try simp only [Act.put, sA, sB, sC]
  refine tY 30 (v := ?_) rfl (by kernel_rfl) (.inl ⟨by rfl, ?_⟩) ‹_› ?_
  rotate_left 1
  · intro w hSw
    (try dsimp only at hSw)
    first | (go_simp; done) | (go_simp; with_reducible rfl)
  try simp only [Act.put, sA, sB, sC]
  refine wpAnyH_ready (rs := [3]) (by kernel_rfl) (by simp) ?_
  refine rC rfl (fun K hK => ?_) AllReadyH.nil
  go_simp
  refine (dU CD _ (bT B0 bd)).mono ?_
  rintro e w1 ⟨⟨u1, rfl, O1⟩, b1⟩
  obtain ⟨a1, c1, rfl⟩ : ∃ a c, u1 = .slice a ds.length c := ⟨_, _, O1.2.choose_spec.choose_spec.1⟩
  have r1 := bT bd b1
  have H1 := dH (O1.mono bd.size)
  clear b1 O1
  refine hK.out _ _ (by first | exact dU HX _ _ r8 q9 | exact dU HX _ _ r8 (fun _ _ => rfl) | exact dU HX _ _ r7 (fun _ _ => rfl) | exact dU HX _ _ r6 (fun _ _ => rfl) | exact dU HX _ _ r5 (fun _ _ => rfl) | exact dU HX _ _ r4 (fun _ _ => rfl) | exact dU HX _ _ r3 (fun _ _ => rfl) | exact dU HX _ _ r2 (fun _ _ => rfl) | exact dU HX _ _ r1 (fun _ _ => rfl) | exact dU HX _ _ bd (fun _ _ => rfl)) (fun hHeld => ?_)
  clear hK K
  try simp only [Act.put, sA, sB, sC]
  refine tY 7 (v := ?_) rfl (by kernel_rfl) (.inl ⟨by rfl, ?_⟩) ‹_› ?_
  rotate_left 1
  · intro w hSw
    (try dsimp only at hSw)
    first | (go_simp; done) | (go_simp; with_reducible rfl)
  try simp only [Act.put, sA, sB, sC]
  refine wpAnyH_ready (rs := [10]) (by kernel_rfl) (by simp) ?_
  refine rC rfl (fun K hK => ?_) AllReadyH.nil
  go_simp
  refine (dU CS _ (bT B0 r1)).mono ?_
  rintro e w2 ⟨⟨g2, rfl, k2, E2⟩, b2⟩
  have r2 := bT r1 b2
  have H2 := dH E2
  have K2 := dH (Nat.le_trans r1.size k2)
  replace H1 := dH ((dU H1).below b2)
  clear b2 E2 k2
  refine hK.out _ _ (by first | exact dU HX _ _ r8 q9 | exact dU HX _ _ r8 (fun _ _ => rfl) | exact dU HX _ _ r7 (fun _ _ => rfl) | exact dU HX _ _ r6 (fun _ _ => rfl) | exact dU HX _ _ r5 (fun _ _ => rfl) | exact dU HX _ _ r4 (fun _ _ => rfl) | exact dU HX _ _ r3 (fun _ _ => rfl) | exact dU HX _ _ r2 (fun _ _ => rfl) | exact dU HX _ _ r1 (fun _ _ => rfl) | exact dU HX _ _ bd (fun _ _ => rfl)) (fun hHeld => ?_)
  clear hK K
  try simp only [Act.put, sA, sB, sC]
  refine wpAnyH_ready (rs := [13]) (by kernel_rfl) (by simp) ?_
  refine rC rfl (fun K hK => ?_) AllReadyH.nil
  go_simp
  refine (dU CL _ (bT B0 r2)).mono ?_
  rintro e w3 ⟨⟨a3, c3, rfl, h3⟩, b3⟩
  have r3 := bT r2 b3
  replace H1 := dH ((dU H1).below b3)
  replace H2 := dH ((dU H2).below b3)
  clear b3
  refine hK.out _ _ (by first | exact dU HX _ _ r8 q9 | exact dU HX _ _ r8 (fun _ _ => rfl) | exact dU HX _ _ r7 (fun _ _ => rfl) | exact dU HX _ _ r6 (fun _ _ => rfl) | exact dU HX _ _ r5 (fun _ _ => rfl) | exact dU HX _ _ r4 (fun _ _ => rfl) | exact dU HX _ _ r3 (fun _ _ => rfl) | exact dU HX _ _ r2 (fun _ _ => rfl) | exact dU HX _ _ r1 (fun _ _ => rfl) | exact dU HX _ _ bd (fun _ _ => rfl)) (fun hHeld => ?_)
  clear hK K
  try simp only [Act.put, sA, sB, sC]
  refine wpAnyH_ready (rs := [16]) (by kernel_rfl) (by simp) ?_
  refine rC rfl (fun K hK => ?_) AllReadyH.nil
  go_simp
  refine (dU CG _).mono ?_
  rintro e w4 ⟨⟨a4, c4, rfl, h4⟩, b4⟩
  have r4 := bT r3 b4
  replace H1 := dH ((dU H1).below b4)
  replace H2 := dH ((dU H2).below b4)
  clear b4
  refine hK.out _ _ (by first | exact dU HX _ _ r8 q9 | exact dU HX _ _ r8 (fun _ _ => rfl) | exact dU HX _ _ r7 (fun _ _ => rfl) | exact dU HX _ _ r6 (fun _ _ => rfl) | exact dU HX _ _ r5 (fun _ _ => rfl) | exact dU HX _ _ r4 (fun _ _ => rfl) | exact dU HX _ _ r3 (fun _ _ => rfl) | exact dU HX _ _ r2 (fun _ _ => rfl) | exact dU HX _ _ r1 (fun _ _ => rfl) | exact dU HX _ _ bd (fun _ _ => rfl)) (fun hHeld => ?_)
  clear hK K
  try simp only [Act.put, sA, sB, sC]
  refine wpAnyH_ready (rs := [19]) (by kernel_rfl) (by simp) ?_
  refine rC rfl (fun K hK => ?_) AllReadyH.nil
  go_simp
  refine (dU CW _).mono ?_
  rintro e w5 ⟨⟨a5, c5, rfl, h5⟩, b5⟩
  have r5 := bT r4 b5
  replace H1 := dH ((dU H1).below b5)
  replace H2 := dH ((dU H2).below b5)
  clear b5
  refine hK.out _ _ (by first | exact dU HX _ _ r8 q9 | exact dU HX _ _ r8 (fun _ _ => rfl) | exact dU HX _ _ r7 (fun _ _ => rfl) | exact dU HX _ _ r6 (fun _ _ => rfl) | exact dU HX _ _ r5 (fun _ _ => rfl) | exact dU HX _ _ r4 (fun _ _ => rfl) | exact dU HX _ _ r3 (fun _ _ => rfl) | exact dU HX _ _ r2 (fun _ _ => rfl) | exact dU HX _ _ r1 (fun _ _ => rfl) | exact dU HX _ _ bd (fun _ _ => rfl)) (fun hHeld => ?_)
  clear hK K
  try simp only [Act.put, sA, sB, sC]
  refine wpAnyH_ready (rs := [22]) (by kernel_rfl) (by simp) ?_
  refine rC rfl (fun K hK => ?_) AllReadyH.nil
  go_simp
  refine (dU CM _).mono ?_
  rintro e w6 ⟨⟨a6, c6, rfl, h6⟩, b6⟩
  have r6 := bT r5 b6
  replace H1 := dH ((dU H1).below b6)
  replace H2 := dH ((dU H2).below b6)
  clear b6
  refine hK.out _ _ (by first | exact dU HX _ _ r8 q9 | exact dU HX _ _ r8 (fun _ _ => rfl) | exact dU HX _ _ r7 (fun _ _ => rfl) | exact dU HX _ _ r6 (fun _ _ => rfl) | exact dU HX _ _ r5 (fun _ _ => rfl) | exact dU HX _ _ r4 (fun _ _ => rfl) | exact dU HX _ _ r3 (fun _ _ => rfl) | exact dU HX _ _ r2 (fun _ _ => rfl) | exact dU HX _ _ r1 (fun _ _ => rfl) | exact dU HX _ _ bd (fun _ _ => rfl)) (fun hHeld => ?_)
  clear hK K
  try simp only [Act.put, sA, sB, sC]
  refine wpAnyH_ready (rs := [25]) (by kernel_rfl) (by simp) ?_
  refine rC rfl (fun K hK => ?_) AllReadyH.nil
  go_simp
  refine (dU CR _ (bT B0 r6)).mono ?_
  rintro e w7 ⟨⟨g7, rfl, k7, E7⟩, b7⟩
  have r7 := bT r6 b7
  have H7 := dH E7
  have K7 := dH (Nat.le_trans r6.size k7)
  replace H1 := dH ((dU H1).below b7)
  replace H2 := dH ((dU H2).below b7)
  clear b7 E7 k7
  refine hK.out _ _ (by first | exact dU HX _ _ r8 q9 | exact dU HX _ _ r8 (fun _ _ => rfl) | exact dU HX _ _ r7 (fun _ _ => rfl) | exact dU HX _ _ r6 (fun _ _ => rfl) | exact dU HX _ _ r5 (fun _ _ => rfl) | exact dU HX _ _ r4 (fun _ _ => rfl) | exact dU HX _ _ r3 (fun _ _ => rfl) | exact dU HX _ _ r2 (fun _ _ => rfl) | exact dU HX _ _ r1 (fun _ _ => rfl) | exact dU HX _ _ bd (fun _ _ => rfl)) (fun hHeld => ?_)
  clear hK K
  try simp only [Act.put, sA, sB, sC]
  refine wpAnyH_ready (rs := [28]) (by kernel_rfl) (by simp) ?_
  refine rC rfl (fun K hK => ?_) AllReadyH.nil
  go_simp
  refine (dU CE _ (bT B0 r7)).mono ?_
  rintro e w8 ⟨⟨a8, c8, rfl, h8⟩, b8⟩
  have r8 := bT r7 b8
  replace H1 := dH ((dU H1).below b8)
  replace H2 := dH ((dU H2).below b8)
  replace H7 := dH ((dU H7).below b8)
  have Y8 := dU HZ _ r8
  clear b8
  refine hK.out _ _ (by first | exact dU HX _ _ r8 q9 | exact dU HX _ _ r8 (fun _ _ => rfl) | exact dU HX _ _ r7 (fun _ _ => rfl) | exact dU HX _ _ r6 (fun _ _ => rfl) | exact dU HX _ _ r5 (fun _ _ => rfl) | exact dU HX _ _ r4 (fun _ _ => rfl) | exact dU HX _ _ r3 (fun _ _ => rfl) | exact dU HX _ _ r2 (fun _ _ => rfl) | exact dU HX _ _ r1 (fun _ _ => rfl) | exact dU HX _ _ bd (fun _ _ => rfl)) (fun hHeld => ?_)
  clear hK K
  try simp only [Act.put, sA, sB, sC]
  refine tY 31 (v := ?_) rfl (by kernel_rfl) (.inl ⟨by rfl, ?_⟩) ‹_› ?_
  rotate_left 1
  · intro w hSw
    (try dsimp only at hSw)
    first | (go_simp; done) | (go_simp; with_reducible rfl)
  try simp only [Act.put, sA, sB, sC]
  refine wpAnyH_ready (rs := [32]) (by kernel_rfl) (by simp) ?_
  refine rC rfl (fun K hK => ?_) AllReadyH.nil
  refine step_putW rfl _ _ _ rfl rfl [.slice a1 ds.length c1, .int .i64 cop, .slice (some ⟨g2, 0, none⟩) ds.length ds.length, .slice a3 0 c3, .slice a4 0 c4, .int .i64 0, .slice a5 0 c5, .slice a6 0 c6, .slice (some ⟨g7, 0, none⟩) 2 2, .slice a8 0 c8, .bool false] rfl rfl Y8 rfl (by kernel_rfl) (by kernel_rfl) ?_
  clear Y8
  intro w9 Y9 s9 q9 b9
  refine hK.out _ _ (by first | exact dU HX _ _ r8 q9 | exact dU HX _ _ r8 (fun _ _ => rfl) | exact dU HX _ _ r7 (fun _ _ => rfl) | exact dU HX _ _ r6 (fun _ _ => rfl) | exact dU HX _ _ r5 (fun _ _ => rfl) | exact dU HX _ _ r4 (fun _ _ => rfl) | exact dU HX _ _ r3 (fun _ _ => rfl) | exact dU HX _ _ r2 (fun _ _ => rfl) | exact dU HX _ _ r1 (fun _ _ => rfl) | exact dU HX _ _ bd (fun _ _ => rfl)) (fun hHeld => ?_)
  clear hK K
  try simp only [Act.put, sA, sB, sC]
  refine wpAnyH_done (by kernel_rfl) ?_ _
  refine NoPanic.normal ?_
  have hk2 := dU K2
  have hk7 := dU K7
  have OO : ∀ W : World, (∀ k, w.heap.size ≤ k → W.heap[k]? = w9.heap[k]?) → _ := fun W q => dU FIN W _ g2 g7 c3 c4 c5 c6 c8 a3 a4 a5 a6 a8 ((dU H1).lkN fun k hk => (q k (by omega)).trans (q9 k (by omega))).bs ((dU H2).lk ((q g2 (by omega)).trans (q9 g2 (by omega)))) ((dU H7).lk ((q g7 (by omega)).trans (q9 g7 (by omega)))) h3 h4 h5 h6 h8
  have BB := (bT B0 r8).trans b9
  clear H1 H2 H7 CD CS CL CG CW CM CR CE FIN HX HZ
  go_wp2_with fail
  refine bodyPost_ret (results_box Tryz.results20 _ _ _ _ _ rfl Y9.bx Tryz.underlying37 rfl (by kernel_rfl)) rfl ⟨⟨_, rfl, OO⟩, BB⟩
end Go.Proofs.YtodfgehicpejgaaGreatDoor
