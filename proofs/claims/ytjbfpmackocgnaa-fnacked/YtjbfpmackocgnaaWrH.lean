/- spec.WriterAdd. -/
import Derived.Test.YtjbfpmackocgnaaWrG
import Derived.Test.YtjbfpmackocgnaaWrC
import Derived.Test.YtjbfpmackocgnaaOpenW
namespace Go.Proofs.Ytjbfpmackocgnaa
open Go.ChangeShapes Go.WideShapes Go.ChangeAt Go.RowKit
set_option linter.unusedVariables false
set_option linter.unusedSimpArgs false
set_option maxRecDepth 100000

/-- A writer with one word more. -/
def addW (m : Wt) (d : ByteArray) : Wt := ⟨m.epoch, m.words ++ [⟨d, [], false⟩]⟩
/-- The zero writer. -/
def zeroWt : Wt := ⟨0, []⟩
open Classical in
/-- WriterAdd. -/
noncomputable def addM (ds : List Int) (cop : Int) (m : Wt) (d : ByteArray) : Wt × Int × Bool := if wrP ds cop m then (if wrP ds cop (addW m d) then (addW m d, (m.words.length : Int) + 1, true) else (m, 0, false)) else (zeroWt, 0, false)
theorem addM_bad {ds : List Int} {cop : Int} {m : Wt} {d : ByteArray} (h : ¬ wrP ds cop m) : addM ds cop m d = (zeroWt, 0, false) := if_neg h
theorem addM_no {ds : List Int} {cop : Int} {m : Wt} {d : ByteArray} (h : wrP ds cop m) (hp : ¬ wrP ds cop (addW m d)) : addM ds cop m d = (m, 0, false) := (if_pos h).trans (if_neg hp)
theorem addM_yes {ds : List Int} {cop : Int} {m : Wt} {d : ByteArray} (h : wrP ds cop m) (hp : wrP ds cop (addW m d)) : addM ds cop m d = (addW m d, (m.words.length : Int) + 1, true) := (if_pos h).trans (if_pos hp)
theorem WAp.rd {w : World} {base : Nat} {v : Value} {ms : List Wd} (h : WAp w base v ms) : RdWordS v ms w := OwK.rd h.ow
/-- A block that is none of theirs is written. -/
theorem WAp.put {w : World} {base b o : Nat} {v : Value} {ms : List Wd} (h : WAp w base v ms) {lo hi : Nat} (hw : OwWordS lo hi v ms w) (hb1 : touch v ≠ some b) (hb2 : ∀ rs : List (Nst Wd), rs.map Nst.m = ms → ApR 35 3 wdCl w base v rs → (∀ p ∈ rs, OwnN w base (Sv Wd.acks p) p.m.acks) → ∀ p ∈ rs, p.m.acks = [] ∨ blockOf (Sv Wd.acks p) ≠ b) (u : Value) : WAp (w.setCell ⟨b, o, none⟩ u) base v ms := by
  obtain ⟨rs, h1, h2, h3, h4, h5⟩ := h
  refine ⟨rs, h1, h2.put elemW hb1 u, fun q hq => (h3 q hq).grown (grown_set w b o u) ?_, h4, h5⟩
  rcases hb2 rs h1 h2 h3 q hq with h | h
  · exact .inl h
  · exact .inr fun e => h (Option.some.inj e).symm
theorem sizAdd {m : Wt} {d : ByteArray} (hs : sizWriter m ≤ 1048576) (hd : d.size ≤ 1048576) : sizWriter (addW m d) ≤ 4194304 := by
  unfold sizWriter sizWordS addW sumX sumW at *
  simp only [List.length_append, List.map_append, List.sum_append, List.length_cons, List.length_nil, List.map_cons, List.map_nil, List.sum_cons, List.sum_nil] at *
  omega
set_option maxHeartbeats 8000000 in
theorem specAdd_any (cv v : Value) (c : List Int × Int) (m : Wt) (d : ByteArray) (w : World) (hc : RdConfig cv c w) (hv : RdWriter v m w) (hs : sizWriter m ≤ 1048576) (hd : d.size ≤ 1048576) :
    Calls Try.prog 16 #[cv, v, .string d] w fun e w' => (∃ u, e = .returned (.tuple #[.agg #[.int .i64 (addM c.1 c.2 m d).1.epoch, u], .int .i64 (addM c.1 c.2 m d).2.1, .bool (addM c.1 c.2 m d).2.2]) ∧ WAp w' w.heap.size u (addM c.1 c.2 m d).1.words) ∧ Below w.heap.size w w' := by
  have CO := dHide fun W (hb : Below w.heap.size w W) => specWriterOk_any cv v c m W (hc.below hb) (hv.below hb) (by omega)
  have CA := dHide fun W v' (hb : Below w.heap.size w W) (hv' : RdWriter v' (addW m d) W) => specWriterOk_any cv v' c (addW m d) W (hc.below hb) hv' (sizAdd hs hd)
  have CP := dHide fun W (hb : Below w.heap.size w W) => l8Copy_any v m W (hv.below hb) (by omega)
  obtain ⟨ds, cop⟩ := c
  obtain ⟨sc, rfl, hc⟩ := hc
  obtain ⟨a, cap, rfl, hl0⟩ := formWriter hv
  have hle : m.words.length ≤ 1048576 := by unfold sizWriter sizWordS at hs; omega
  simp only at *
  obtain ⟨-, ca, cc, rfl, -, -⟩ := hc
  clear hv
  have ba : ∀ (w : World) o, Below w.heap.size w (w.alloc o) := fun w o => (Below.refl _ _).alloc (Nat.le_refl _) o
  have B0 := belowThen (belowThen (ba w (.cells #[.slice ca ds.length cc, .int .i64 cop] 26)) (ba _ (.cells #[.int .i64 m.epoch, .slice a m.words.length cap] 29))) (ba _ (.cells #[.int .i64 0, .slice none 0 0] 29))
  have X0 := dHide ((Bx.new w [.slice ca ds.length cc, .int .i64 cop] 26).below (belowThen (ba _ (.cells #[.int .i64 m.epoch, .slice a m.words.length cap] 29)) (ba _ (.cells #[.int .i64 0, .slice none 0 0] 29))))
  have Y0 := (Bx.new (w.alloc (.cells #[.slice ca ds.length cc, .int .i64 cop] 26)) [.int .i64 m.epoch, .slice a m.words.length cap] 29).below (ba _ (.cells #[.int .i64 0, .slice none 0 0] 29))
  have Z0 := BxZ.new (B := w.heap.size) ((w.alloc (.cells #[.slice ca ds.length cc, .int .i64 cop] 26)).alloc (.cells #[.int .i64 m.epoch, .slice a m.words.length cap] 29)) [.int .i64 0, .slice none 0 0] 29 (by simp <;> omega)
  have e1 : (w.alloc (.cells #[.slice ca ds.length cc, .int .i64 cop] 26)).heap.size = w.heap.size + 1 := by simp
  have e2 : ((w.alloc (.cells #[.slice ca ds.length cc, .int .i64 cop] 26)).alloc (.cells #[.int .i64 m.epoch, .slice a m.words.length cap] 29)).heap.size = w.heap.size + 1 + 1 := by simp
  rw [e1] at Y0
  rw [e2] at Z0
  replace Y0 := dHide Y0
  replace Z0 := dHide Z0
  clear e1 e2
  have hsz0 : Hid (w.heap.size + 1 + 1 + 1 = (((w.alloc (.cells #[.slice ca ds.length cc, .int .i64 cop] 26)).alloc (.cells #[.int .i64 m.epoch, .slice a m.words.length cap] 29)).alloc (.cells #[.int .i64 0, .slice none 0 0] 29)).heap.size) := by simp [Hid]
  have RB : Hid (¬ wrP ds cop m → addM ds cop m d = (zeroWt, 0, false)) := addM_bad
  have RN : Hid (wrP ds cop m → ¬ wrP ds cop (addW m d) → addM ds cop m d = (m, 0, false)) := addM_no
  have RY : Hid (wrP ds cop m → wrP ds cop (addW m d) → addM ds cop m d = (addW m d, (m.words.length : Int) + 1, true)) := addM_yes
  generalize addM ds cop m d = AM at *
  go_enter Try.func16, Try.ntmps16
  go_wp2_with fail
  generalize ((w.alloc (.cells #[.slice ca ds.length cc, .int .i64 cop] 26)).alloc (.cells #[.int .i64 m.epoch, .slice a m.words.length cap] 29)).alloc (.cells #[.int .i64 0, .slice none 0 0] 29) = w0 at *
  refine (dUnhide CO _ B0).mono ?_
  rintro e w1 ⟨⟨b1, rfl, h1⟩, bl1⟩
  have B1 := belowThen B0 bl1
  have X1 := dHide ((dUnhide X0).below bl1)
  have Y1 := dHide ((dUnhide Y0).below bl1)
  have Z1 := dHide ((dUnhide Z0).below bl1)
  have s1 := bl1.size
  clear X0 Y0 Z0 B0 bl1 CO
  cases b1
  · have e := dUnhide RB fun h => by have := h1.2 h; cases this
    subst e
    obtain ⟨z0, f0⟩ := (dUnhide Z1).2 0 _ rfl
    obtain ⟨z1, f1⟩ := (dUnhide Z1).2 1 _ rfl
    have ZZ := dHide (((dUnhide Z1).put 0 (.int .i64 0)).put 1 (.slice none 0 0))
    have BB := dHide ((B1.setCell (p := ⟨w.heap.size + 1 + 1, 0, none⟩) (by simp only; omega) (.int .i64 0)).setCell (p := ⟨w.heap.size + 1 + 1, 1, none⟩) (by simp only; omega) (.slice none 0 0))
    clear h1 RB RN RY CP CA X1 Y1
    go_wp2_with fail
    generalize (w1.setCell ⟨w.heap.size + 1 + 1, 0, none⟩ (.int .i64 0)).setCell ⟨w.heap.size + 1 + 1, 1, none⟩ (.slice none 0 0) = V at *
    have q0 := ((dUnhide ZZ).2 0 _ rfl).1
    have q1 := ((dUnhide ZZ).2 1 _ rfl).1
    refine bodyPost_ret (v := .tuple #[.agg #[.int .i64 0, .slice none 0 0], .int .i64 0, .bool false]) (by simp [results, Try.results16, go_sem, q0, q1]) rfl ⟨⟨_, rfl, WAp.nil V w.heap.size none⟩, dUnhide BB⟩
  have hP := h1.1 rfl
  have RN' := dHide (dUnhide RN hP)
  have RY' := dHide (dUnhide RY hP)
  have HP := dHide hP
  clear RB RN RY h1 hP
  have y0 := dUnhide Y1 0 _ rfl
  have y1 := dUnhide Y1 1 _ rfl
  have CP1 := dHide (dUnhide CP _ B1)
  go_wp2_with fail
  refine (dUnhide CP1).mono ?_
  rintro e w2 ⟨⟨u2, rfl, N2⟩, b2⟩
  obtain ⟨ua, uc, rfl⟩ := N2.slice
  have B2 := belowThen B1 b2
  have s2 := b2.size
  have X2 := dHide ((dUnhide X1).below b2)
  have Y2 := dHide ((dUnhide Y1).below b2)
  have Z2 := dHide ((dUnhide Z1).below b2)
  clear X1 Y1 Z1 B1 b2 CP1 y0 y1
  have hw1 : w.heap.size + 3 ≤ w1.heap.size := by have := dUnhide hsz0; omega
  have bA := ba w2 (.cells #[.int .i64 m.epoch, .slice ua m.words.length uc] 29)
  have bB := belowThen bA (ba _ (.cells #[.string d, .slice none 0 0, .bool false] 35))
  have O3 := dHide ((BxZ.new (B := w.heap.size) w2 [.int .i64 m.epoch, .slice ua m.words.length uc] 29 (by omega)).below (ba _ (.cells #[.string d, .slice none 0 0, .bool false] 35)))
  have o1 := ((dUnhide O3).2 1 _ rfl).1
  have RO := rwW_one (w2.alloc (.cells #[.int .i64 m.epoch, .slice ua m.words.length uc] 29)) ⟨none, 0, ⟨d, [], false⟩⟩ 35 1 (by omega)
  rw [show (w2.alloc (.cells #[.int .i64 m.epoch, .slice ua m.words.length uc] 29)).heap.size = w2.heap.size + 1 from by simp] at RO
  replace RO := dHide RO
  have tv : Hid (∀ j, touch (.slice ua m.words.length uc) = some j → w1.heap.size ≤ j ∧ j < w2.heap.size) := fun j hj => N2.touched hj
  obtain ⟨r0, m1, n2, n3, m4, m5⟩ := N2
  have m2 := n2.below bB
  have m3 := fun p hp => (n3 p hp).below bB
  have hl1 : r0.length = m.words.length := by rw [← m1, List.length_map]
  have ob : Hid (∀ p ∈ r0, p.m.acks = [] ∨ blockOf (Sv Wd.acks p) < w2.heap.size) := fun p hp => (n3 p hp).bs.lt
  have M := dHide (And.intro m1 (And.intro m2 (And.intro m3 (And.intro m4 m5))))
  have B4 := belowThen B2 bB
  have X4 := dHide ((dUnhide X2).below bB)
  have Y4 := dHide ((dUnhide Y2).below bB)
  have Z4 := dHide ((dUnhide Z2).below bB)
  have hs4 : Hid (((w2.alloc (.cells #[.int .i64 m.epoch, .slice ua m.words.length uc] 29)).alloc (.cells #[.string d, .slice none 0 0, .bool false] 35)).heap.size = w2.heap.size + 1 + 1) := by simp [Hid]
  clear m1 m2 m3 m4 m5 n2 n3 bA bB X2 Y2 Z2 B2
  go_wp2_with (first
    | (at_builtin; refine wp_apR elemW rfl _ _ rfl w1.heap.size _ r0 rfl (dUnhide M).2.1 _ [⟨none, 0, ⟨d, [], false⟩⟩] rfl (dUnhide RO) (by simp; omega) (by simp; omega) (by simp; omega) ?_; intro v5 w5 P5 g5 t5
       obtain ⟨a5, c5, e5⟩ : ∃ a c, v5 = .slice a (m.words.length + 1) c := by
         obtain ⟨a, c, e⟩ := ApR.slice elemW P5
         exact ⟨a, c, by rw [e]; simp [hl1]⟩
       subst e5
       have NN : Hid (∀ u, WAp (w5.setCell ⟨w2.heap.size, 1, none⟩ u) w1.heap.size (.slice a5 (m.words.length + 1) c5) (m.words ++ [⟨d, [], false⟩])) := fun u => WAp.pushO (p := ⟨none, 0, ⟨d, [], false⟩⟩) (dUnhide M).1 (dUnhide M).2.1 (dUnhide M).2.2.1 (dUnhide M).2.2.2.1 (dUnhide M).2.2.2.2 (dUnhide M).2.2.1 (Nat.le_refl _) (by simp; omega) ⟨by simp, none, 0, rfl, by simp, .inl rfl⟩ P5 g5 t5 (fun e => by have := dUnhide tv _ e; omega) (fun q hq => by
         rcases List.mem_append.1 hq with hq | hq
         · rcases dUnhide ob q hq with h | h
           · exact .inl h
           · exact .inr (by omega)
         · obtain rfl : q = ⟨none, 0, ⟨d, [], false⟩⟩ := by simpa using hq
           exact .inl rfl) (by simp <;> omega) u
       have O5 := dHide ((dUnhide O3).grown g5 (fun e => by have := dUnhide tv _ e; omega))
       have X5 := dHide ((dUnhide X4).grown g5 (fun e => by have := dUnhide tv _ e; omega))
       have Y5 := dHide ((dUnhide Y4).grown g5 (fun e => by have := dUnhide tv _ e; omega))
       have Z5 := dHide ((dUnhide Z4).grown g5 (fun e => by have := dUnhide tv _ e; omega))
       have B5 := dHide (B4.grown g5 (by simp; omega) (fun j hj => by have := dUnhide tv _ hj; omega))
       have s5 := g5.size
       obtain ⟨i0, j0⟩ := (dUnhide O5).2 1 _ rfl
       obtain ⟨i00, j00⟩ := (dUnhide O5).2 0 _ rfl
       have xx0 := dUnhide X5 0 _ rfl
       have xx1 := dUnhide X5 1 _ rfl
       have hx : w.heap.size ≠ w2.heap.size := by omega)
    | fail)
  have s5' : w2.heap.size + 1 + 1 ≤ w5.heap.size := by have := dUnhide hs4; omega
  clear s5 X4 Y4 Z4 B4 O3 M RO hs4 tv ob g5 t5 P5
  have O6 := dHide ((dUnhide O5).put 1 (.slice a5 (m.words.length + 1) c5))
  have X6 := dHide ((dUnhide X5).farB (b' := w2.heap.size) (o := 1) (by omega) (.slice a5 (m.words.length + 1) c5))
  have Y6 := dHide ((dUnhide Y5).farB (b' := w2.heap.size) (o := 1) (by omega) (.slice a5 (m.words.length + 1) c5))
  have Z6 := dHide ((dUnhide Z5).far (b' := w2.heap.size) (o := 1) (by omega) (.slice a5 (m.words.length + 1) c5))
  have B6 := (dUnhide B5).setCell (p := ⟨w2.heap.size, 1, none⟩) (by simp only; omega) (.slice a5 (m.words.length + 1) c5)
  have N6 := dHide (dUnhide NN (.slice a5 (m.words.length + 1) c5))
  have s6 : w2.heap.size + 1 + 1 ≤ (w5.setCell ⟨w2.heap.size, 1, none⟩ (.slice a5 (m.words.length + 1) c5)).heap.size := by rw [World.size_setCell]; exact s5'
  clear O5 X5 Y5 Z5 B5 NN i0 j0 i00 j00 xx0 xx1
  generalize w5.setCell ⟨w2.heap.size, 1, none⟩ (.slice a5 (m.words.length + 1) c5) = w6 at *
  have CA6 := dHide (dUnhide CA w6 (.agg #[.int .i64 m.epoch, .slice a5 (m.words.length + 1) c5]) B6 ⟨_, rfl, (dUnhide N6).rd⟩)
  clear CA
  refine (dUnhide CA6).mono ?_
  rintro e w7 ⟨⟨b7, rfl, h7⟩, bl7⟩
  have O7 := dHide ((dUnhide O6).below bl7)
  have Y7 := dHide ((dUnhide Y6).below bl7)
  have Z7 := dHide ((dUnhide Z6).below bl7)
  have N7 := dHide ((dUnhide N6).below bl7)
  have B7 := belowThen B6 bl7
  have s7 := bl7.size
  clear O6 X6 Y6 Z6 N6 B6 bl7 CA6
  cases b7
  · have e := dUnhide RN' fun h => by have := h7.2 h; cases this
    subst e
    have y0 := dUnhide Y7 0 _ rfl
    have y1 := dUnhide Y7 1 _ rfl
    have CP7 := dHide (dUnhide CP _ B7)
    clear CP RN' RY' h7
    go_wp2_with fail
    refine (dUnhide CP7).mono ?_
    rintro e w8 ⟨⟨u8, rfl, N8⟩, b8⟩
    obtain ⟨va, vc, rfl⟩ := N8.slice
    have B8 := belowThen B7 b8
    have Z8 := dHide ((dUnhide Z7).below b8)
    obtain ⟨z0, f0⟩ := (dUnhide Z8).2 0 _ rfl
    obtain ⟨z1, f1⟩ := (dUnhide Z8).2 1 _ rfl
    have ZZ := dHide (((dUnhide Z8).put 0 (.int .i64 m.epoch)).put 1 (.slice va m.words.length vc))
    have BB := dHide ((B8.setCell (p := ⟨w.heap.size + 1 + 1, 0, none⟩) (by simp only; omega) (.int .i64 m.epoch)).setCell (p := ⟨w.heap.size + 1 + 1, 1, none⟩) (by simp only; omega) (.slice va m.words.length vc))
    have NV := dHide ((N8.far (b := w.heap.size + 1 + 1) (o := 0) (by omega) (.int .i64 m.epoch)).far (b := w.heap.size + 1 + 1) (o := 1) (by omega) (.slice va m.words.length vc))
    clear y0 y1 CP7 O7 Y7 Z7 N7 Z8 B8 N8 b8
    go_wp2_with fail
    generalize (w8.setCell ⟨w.heap.size + 1 + 1, 0, none⟩ (.int .i64 m.epoch)).setCell ⟨w.heap.size + 1 + 1, 1, none⟩ (.slice va m.words.length vc) = V at *
    have q0 := ((dUnhide ZZ).2 0 _ rfl).1
    have q1 := ((dUnhide ZZ).2 1 _ rfl).1
    refine bodyPost_ret (v := .tuple #[.agg #[.int .i64 m.epoch, .slice va m.words.length vc], .int .i64 0, .bool false]) (by simp [results, Try.results16, go_sem, q0, q1]) rfl ⟨⟨_, rfl, (dUnhide NV).mono (by omega)⟩, dUnhide BB⟩
  · have e := dUnhide RY' (h7.1 rfl)
    subst e
    obtain ⟨p0, -⟩ := (dUnhide O7).2 0 _ rfl
    obtain ⟨p1, -⟩ := (dUnhide O7).2 1 _ rfl
    obtain ⟨z0, f0⟩ := (dUnhide Z7).2 0 _ rfl
    obtain ⟨z1, f1⟩ := (dUnhide Z7).2 1 _ rfl
    have ZZ := dHide (((dUnhide Z7).put 0 (.int .i64 m.epoch)).put 1 (.slice a5 (m.words.length + 1) c5))
    have BB := dHide ((B7.setCell (p := ⟨w.heap.size + 1 + 1, 0, none⟩) (by simp only; omega) (.int .i64 m.epoch)).setCell (p := ⟨w.heap.size + 1 + 1, 1, none⟩) (by simp only; omega) (.slice a5 (m.words.length + 1) c5))
    have NV := dHide (((dUnhide N7).far (b := w.heap.size + 1 + 1) (o := 0) (by omega) (.int .i64 m.epoch)).far (b := w.heap.size + 1 + 1) (o := 1) (by omega) (.slice a5 (m.words.length + 1) c5))
    have hne : w2.heap.size ≠ w.heap.size + 1 + 1 := by omega
    clear CP RN' RY' h7 O7 Y7 Z7 N7 o1
    go_wp2_with fail
    go_region_held3 (fun W => W.cell? ⟨w2.heap.size, 0, none⟩ = some (.int .i64 m.epoch) ∧ W.cell? ⟨w2.heap.size, 1, none⟩ = some (.slice a5 (m.words.length + 1) c5)) (first | exact ⟨set_other (set_other p0 (.inl hne)) (.inl hne), set_other (set_other p1 (.inl hne)) (.inl hne)⟩ | go_keep) (fail)
    all_goals
      go_wp2_with fail
      generalize (w7.setCell ⟨w.heap.size + 1 + 1, 0, none⟩ (.int .i64 m.epoch)).setCell ⟨w.heap.size + 1 + 1, 1, none⟩ (.slice a5 (m.words.length + 1) c5) = V at *
      have q0 := ((dUnhide ZZ).2 0 _ rfl).1
      have q1 := ((dUnhide ZZ).2 1 _ rfl).1
      refine bodyPost_ret (v := .tuple #[.agg #[.int .i64 m.epoch, .slice a5 (m.words.length + 1) c5], .int .i64 ((m.words.length : Int) + 1), .bool true]) (by simp [results, Try.results16, go_sem, q0, q1]) rfl ⟨⟨_, rfl, ((dUnhide NV).below (Below.refl _ _).drew).mono (by omega)⟩, (dUnhide BB).drew⟩
end Go.Proofs.Ytjbfpmackocgnaa
