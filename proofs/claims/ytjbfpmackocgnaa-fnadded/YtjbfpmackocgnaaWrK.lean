/- impl.WriterAdd. -/
import Derived.Test.YtjbfpmackocgnaaWrJ
namespace Go.Proofs.Ytjbfpmackocgnaa
open Go.ChangeShapes Go.WideShapes Go.ChangeAt Go.RowKit
set_option linter.unusedVariables false
set_option linter.unusedSimpArgs false
set_option maxRecDepth 100000

/-- When a word may be added. -/
def addP (ms : List Wd) (d : ByteArray) : Prop := d.size ≤ 40 ∧ ms.length ≠ 60 ∧ openN ms ≠ 6
theorem holdsP_nil {ds : List Int} {cop : Int} : ¬ holdsP ds cop [] := fun h => by
  have h1 := h.1.1.2.1.1
  have h2 := h.2
  simp [spanN, domsOf, dedL] at h2
  omega
theorem add_iff {ds : List Int} {cop : Int} {m : Wt} {d : ByteArray} (h : wrP ds cop m) : wrP ds cop (addW m d) ↔ addP m.words d := by
  have hn : nodesP ds cop [] := ⟨h.1, fun i hi => by simp at hi⟩
  have eo : openN (addW m d).words = openN m.words + 1 := by unfold openN addW; simp [List.countP_append]
  have el : (addW m d).words.length = m.words.length + 1 := by unfold addW; simp
  rw [wrP_iff, eo, el]
  have h' := (wrP_iff ds cop m).1 h
  constructor
  · rintro ⟨-, -, h3, h4, h5⟩
    have := h4 ⟨d, [], false⟩ (by unfold addW; simp)
    exact ⟨this.1, by omega, by omega⟩
  · rintro ⟨h1, h2, h3⟩
    refine ⟨h'.1, h'.2.1, by have := h'.2.2.1; omega, fun e he => ?_, by have := h'.2.2.2.2; omega⟩
    unfold addW at he
    rcases List.mem_append.1 he with he | he
    · exact h'.2.2.2.1 e he
    · obtain rfl : e = ⟨d, [], false⟩ := by simpa using he
      exact ⟨h1, hn, ⟨fun hh => absurd hh holdsP_nil, fun hh => by cases hh⟩⟩
theorem Wn.parts {W : World} {lo b : Nat} {ep cop : Int} {cs u : Value} {ms : List Wd} (h : Wn W lo b ep cs cop u ms) : ∃ (rs : List (Nst Wd)) (a : Option Addr) (c bb off : Nat), rs.map Nst.m = ms ∧ u = .slice a rs.length c ∧ Rw 3 wdCl W (.slice a rs.length c) rs ∧ (rs = [] ∨ a = some ⟨bb, off, none⟩) := by
  obtain ⟨-, rs, h1, h2, -⟩ := h
  have hr := (ApR.own elemW h2).rw
  have hr' := hr
  obtain ⟨-, a, c, rfl, -, h⟩ := hr'
  rcases h with h | ⟨bb, off, rfl, -⟩
  · exact ⟨rs, a, c, 0, 0, h1, rfl, hr, .inl h⟩
  · exact ⟨rs, _, c, bb, off, h1, rfl, hr, .inr rfl⟩
set_option maxHeartbeats 8000000 in
theorem winAdd_any (W : World) (lo b : Nat) (ep cop : Int) (cs u : Value) (ms : List Wd) (d : ByteArray) (hW : Wn W lo b ep cs cop u ms) (hl : ms.length ≤ 60) (hd : d.size ≤ 1048576) (hlo : lo ≤ W.heap.size) :
    Calls Try.prog 60 #[.pointer (some ⟨b, 1, none⟩), .string d] W fun e w' => ((addP ms d → e = .returned (.bool true) ∧ ∃ u', Wn w' lo b ep cs cop u' (ms ++ [⟨d, [], false⟩])) ∧ (¬ addP ms d → e = .returned (.bool false) ∧ Wn w' lo b ep cs cop u ms)) ∧ Below lo W w' := by
  have ba : ∀ (w : World) o, Below w.heap.size w (w.alloc o) := fun w o => (Below.refl _ _).alloc (Nat.le_refl _) o
  obtain ⟨rs, a, c, bb, off, hm, rfl, hr, ha⟩ := hW.parts
  have el : rs.length = ms.length := by rw [← hm, List.length_map]
  have c3 := (hW.box.2 3 _ rfl).1
  have CO := dHide (winOpen_any b 1 bb off c a rs W c3 hr ha (by omega))
  rw [hm, el] at CO
  have OL : Hid (((opI ms ms.length).map (adW bb off)).length = openN ms) := by
    rw [Hid, List.length_map, opI_len ms ms.length (Nat.le_refl _), List.take_of_length_le (Nat.le_refl _)]
  rw [el] at hr c3
  rw [el] at hW
  rw [el]
  have PN : Hid (addP ms d ↔ d.size ≤ 40 ∧ ms.length ≠ 60 ∧ openN ms ≠ 6) := Iff.rfl
  generalize addP ms d = P at *
  have HW := dHide hW
  clear hm hr ha el hW
  by_cases h40 : (40 : Int) < (d.size : Int)
  · have hn : ¬ P := fun h => by have := ((dUnhide PN).1 h).1; omega
    have HN := dHide hn
    clear hn CO PN
    go_enter Try.func60, Try.ntmps60
    go_wp2
    go_ret
    exact ⟨⟨fun h => absurd h (dUnhide HN), fun _ => ⟨rfl, dUnhide HW⟩⟩, Below.refl _ _⟩
  by_cases h60 : ms.length = 60
  · have hn : ¬ P := fun h => ((dUnhide PN).1 h).2.1 h60
    have HN := dHide hn
    have hb60 : ((ms.length : Int) == 60) = true := by simp [h60]
    clear hn CO PN h60
    go_enter Try.func60, Try.ntmps60
    go_wp2
    go_ret
    exact ⟨⟨fun h => absurd h (dUnhide HN), fun _ => ⟨rfl, dUnhide HW⟩⟩, Below.refl _ _⟩
  have hb60 : ((ms.length : Int) == 60) = false := by
    rw [beq_eq_false_iff_ne]
    omega
  go_enter Try.func60, Try.ntmps60
  go_wp2_with fail
  refine (dUnhide CO).mono ?_
  rintro e w1 ⟨⟨u1, rfl, A1⟩, b1⟩
  obtain ⟨oa, oc, rfl⟩ := ApR.slice elemO A1
  rw [dUnhide OL]
  have W1 := (dUnhide HW).below b1
  have s1 := b1.size
  have BL := b1.mono hlo
  clear CO A1 b1 OL c3
  have c3 := (W1.box.2 3 _ rfl).1
  by_cases h6 : openN ms = 6
  · have hn : ¬ P := fun h => ((dUnhide PN).1 h).2.2 h6
    have HN := dHide hn
    have HW1 := dHide W1
    have hb6 : ((openN ms : Int) == 6) = true := by simp [h6]
    generalize openN ms = on at *
    clear hn PN h6 W1 HW
    go_wp2
    go_ret
    exact ⟨⟨fun h => absurd h (dUnhide HN), fun _ => ⟨rfl, dUnhide HW1⟩⟩, BL⟩
  have hy : P := (dUnhide PN).2 ⟨by omega, h60, h6⟩
  have hb6 : ((openN ms : Int) == 6) = false := by
    rw [beq_eq_false_iff_ne]
    omega
  generalize openN ms = on at *
  have bA := ba w1 (.cells #[.string d, .slice none 0 0, .bool false] 35)
  have RO := dHide (rwW_one w1 ⟨none, 0, ⟨d, [], false⟩⟩ 35 1 (by omega))
  have hblt := W1.lt
  obtain ⟨X1, r0, m1, n2, n3, m4, m5, m6, m7⟩ := W1
  have tv : Hid (∀ j, touch (.slice a ms.length c) = some j → lo ≤ j ∧ j < w1.heap.size) := fun j hj => n2.touched elemW hj
  have m2 := n2.below bA
  have m3 := fun p hp => (n3 p hp).below bA
  have hl1 : r0.length = ms.length := by rw [← m1, List.length_map]
  have X2 := dHide (X1.below bA)
  have M := dHide (And.intro m1 (And.intro m2 (And.intro m3 (And.intro m4 m5))))
  have M6 := dHide m6
  have M7 := dHide m7
  have B2 := dHide (BL.alloc (by omega) (.cells #[.string d, .slice none 0 0, .bool false] 35))
  clear m1 m2 m3 m4 m5 m6 m7 n2 n3 X1 PN HW h60 h6
  go_wp2_with (first
    | (at_builtin; refine wp_apR elemW rfl _ _ rfl lo _ r0 rfl (dUnhide M).2.1 _ [⟨none, 0, ⟨d, [], false⟩⟩] rfl (dUnhide RO) (by simp; omega) (by simp; omega) (by simp; omega) ?_; intro v5 w5 P5 g5 t5
       obtain ⟨a5, c5, e5⟩ : ∃ a c, v5 = .slice a (ms.length + 1) c := by
         obtain ⟨a, c, e⟩ := ApR.slice elemW P5
         exact ⟨a, c, by rw [e]; simp [hl1]⟩
       subst e5
       have QX := WAp.pushX (p := ⟨none, 0, ⟨d, [], false⟩⟩) (dUnhide M).1 (dUnhide M).2.1 (dUnhide M).2.2.1 (dUnhide M).2.2.2.1 (dUnhide M).2.2.2.2 (dUnhide M).2.2.1 (Nat.le_refl _) (by simp; omega) ⟨by simp, none, 0, rfl, by simp, .inl rfl⟩ P5 g5 t5
       have X5 := dHide ((dUnhide X2).grown g5 (fun e => dUnhide M6 e))
       have T5 : Hid (touch (.slice a5 (ms.length + 1) c5) ≠ some b) := fun e => by
         rcases t5 with t5 | t5
         · exact dUnhide M6 (t5 ▸ e)
         · have := t5 _ e
           simp at this
           omega
       have L5 : Hid (∀ p ∈ r0 ++ [⟨none, 0, ⟨d, [], false⟩⟩], p.m.acks = [] ∨ blockOf (Sv Wd.acks p) ≠ b) := fun p hp => by
         rcases List.mem_append.1 hp with hp | hp
         · exact dUnhide M7 p hp
         · obtain rfl : p = ⟨none, 0, ⟨d, [], false⟩⟩ := by simpa using hp
           exact .inl rfl
       have HQ := dHide QX
       have B5 := dHide ((dUnhide B2).grown g5 (by simp; omega) (fun j hj => (dUnhide tv _ hj).1))
       obtain ⟨i0, j0⟩ := (dUnhide X5).2 3 _ rfl
       clear QX)
    | fail)
  go_ret
  refine ⟨⟨fun _ => ⟨rfl, .slice a5 (ms.length + 1) c5, (dUnhide X5).put 3 _, r0 ++ [⟨none, 0, ⟨d, [], false⟩⟩], (dUnhide HQ).1, (dUnhide HQ).2.1.put elemW (dUnhide T5) _, fun p hp => ((dUnhide HQ).2.2.1 p hp).grown (grown_set _ _ _ _) ?_, (dUnhide HQ).2.2.2.1, (dUnhide HQ).2.2.2.2, dUnhide T5, dUnhide L5⟩, fun h => absurd hy h⟩, (dUnhide B5).setCell (p := ⟨b, 1 + 2, none⟩) (by simp only; omega) _⟩
  rcases dUnhide L5 p hp with h | h
  · exact .inl h
  · exact .inr fun e => h (Option.some.inj e).symm
set_option maxHeartbeats 4000000 in
theorem addFn_any (W : World) (lo b bd : Nat) (ep cop : Int) (cs u : Value) (ms : List Wd) (d : ByteArray) (hW : Wn W lo b ep cs cop u ms) (hl : ms.length ≤ 60) (hd : d.size ≤ 1048576) (hlo : lo ≤ W.heap.size) (hc : W.cell? ⟨bd, 0, none⟩ = some (.string d)) (hbd : bd < lo) :
    Calls Try.prog 59 #[.pointer (some ⟨b, 0, none⟩), .pointer (some ⟨bd, 0, none⟩)] W fun e w' => ((addP ms d → e = .returned (.bool true) ∧ ∃ u', Wn w' lo b ep cs cop u' (ms ++ [⟨d, [], false⟩])) ∧ (¬ addP ms d → e = .returned (.bool false) ∧ Wn w' lo b ep cs cop u ms)) ∧ Below lo W w' := by
  have bd' : Below W.heap.size W W.drew := (Below.refl _ _).drew
  have CA := dHide (winAdd_any W.drew lo b ep cop cs u ms d (hW.below bd') hl hd (by simpa using hlo))
  have HC := dHide fun W' (hb : Below lo W W') => (hb.cell (p := ⟨bd, 0, none⟩) hbd).trans hc
  clear hW
  go_enter Try.func59, Try.ntmps59
  go_wp2_with fail
  go_region_held3 (fun W => W.cell? ⟨bd, 0, none⟩ = some (.string d)) (first | exact q5 | exact hc | go_keep)
    (first
      | (go_at_call 60; refine (dUnhide CA).mono ?_; rintro e w5 ⟨⟨hy, hn⟩, b5⟩; have b5' : Below lo W w5 := ⟨b5.os, b5.tape, b5.output, b5.size, b5.block⟩; have q5 := dUnhide HC w5 b5'; have HY := dHide hy; have HN := dHide hn; obtain ⟨bo, rfl⟩ : ∃ bo : Bool, e = .returned (.bool bo) := by
           by_cases h : addP ms d
           · exact ⟨_, (hy h).1⟩
           · exact ⟨_, (hn h).1⟩))
  all_goals
    clear hy hn CA HC q5 hc
    go_wp2
    go_ret
    exact ⟨⟨dUnhide HY, dUnhide HN⟩, b5'⟩
set_option maxHeartbeats 8000000 in
theorem implAdd_any (cv v : Value) (c : List Int × Int) (m : Wt) (d : ByteArray) (w : World) (hc : RdConfig cv c w) (hv : RdWriter v m w) (okc : okConfig c) (okm : okWriter m) (hsc : sizConfig c ≤ 1048576) (hs : sizWriter m ≤ 1048576) (hd : d.size ≤ 1048576) :
    Calls Try.prog 15 #[cv, v, .string d] w fun e w' => (∃ u, e = .returned (.tuple #[.agg #[.int .i64 (addM c.1 c.2 m d).1.epoch, u], .int .i64 (addM c.1 c.2 m d).2.1, .bool (addM c.1 c.2 m d).2.2]) ∧ WAp w' w.heap.size u (addM c.1 c.2 m d).1.words) ∧ Below w.heap.size w w' := by
  have ba : ∀ (w : World) o, Below w.heap.size w (w.alloc o) := fun w o => (Below.refl _ _).alloc (Nat.le_refl _) o
  have CC : Hid (∀ W bd, Below w.heap.size w W → bd < W.heap.size → W.cell? ⟨bd, 0, none⟩ = some (.string d) → Calls Try.prog 58 #[v, cv, .func (.func 59) #[] #[.pointer (some ⟨bd, 0, none⟩)]] W fun e w' => (∃ u, e = .returned (.tuple #[.agg #[.int .i64 (addM c.1 c.2 m d).1.epoch, u], .bool (addM c.1 c.2 m d).2.2]) ∧ WAp w' W.heap.size u (addM c.1 c.2 m d).1.words) ∧ Below W.heap.size W w') := fun W bd hb hlt hcd =>
    changed_any cv v c m 59 #[.pointer (some ⟨bd, 0, none⟩)] (addM c.1 c.2 m d).1 (addM c.1 c.2 m d).2.2 W (hc.below hb) (hv.below hb) okc okm hsc hs Try.call59 (fun hn => by rw [addM_bad hn]; exact ⟨rfl, rfl⟩) (fun hp W' lo b cs u hB hl1 hl2 hN hW => by
      have hlen := ((wrP_iff _ _ _).1 hp).2.2.1
      refine (addFn_any W' lo b bd m.epoch c.2 cs u m.words d hW.wn hlen hd hl2 ((hB.cell (p := ⟨bd, 0, none⟩) hlt).trans hcd) (by omega)).mono ?_
      rintro e w5 ⟨⟨hy, hn⟩, b5⟩
      by_cases ha : addP m.words d
      · rw [addM_yes hp ((add_iff hp).2 ha)]
        exact ⟨(hy ha).1, (hy ha).2, b5⟩
      · rw [addM_no hp (fun h => ha ((add_iff hp).1 h))]
        exact ⟨(hn ha).1, ⟨u, (hn ha).2⟩, b5⟩)
  have AE : Hid ((addM c.1 c.2 m d).2.2 = true → (addM c.1 c.2 m d).2.1 = ((addM c.1 c.2 m d).1.words.length : Int)) := fun h => by
    by_cases hp : wrP c.1 c.2 m
    · by_cases ha : wrP c.1 c.2 (addW m d)
      · rw [addM_yes hp ha]; simp [addW]
      · rw [addM_no hp ha] at h; cases h
    · rw [addM_bad hp] at h; cases h
  have AN : Hid ((addM c.1 c.2 m d).2.2 = false → (addM c.1 c.2 m d).2.1 = 0) := fun h => by
    by_cases hp : wrP c.1 c.2 m
    · by_cases ha : wrP c.1 c.2 (addW m d)
      · rw [addM_yes hp ha] at h; cases h
      · rw [addM_no hp ha]
    · rw [addM_bad hp]
  have AL : Hid ((addM c.1 c.2 m d).1.words.length ≤ 2097152) := by
    have hle : m.words.length ≤ 1048576 := by unfold sizWriter sizWordS at hs; omega
    by_cases hp : wrP c.1 c.2 m
    · by_cases ha : wrP c.1 c.2 (addW m d)
      · rw [Hid, addM_yes hp ha]; simp [addW]; omega
      · rw [Hid, addM_no hp ha]; simp; omega
    · rw [Hid, addM_bad hp]; simp [zeroWt]
  generalize addM c.1 c.2 m d = AM at *
  obtain ⟨R, n, ok⟩ := AM
  simp only at *
  obtain ⟨ds, cop⟩ := c
  obtain ⟨sc, rfl, hc⟩ := hc
  obtain ⟨a, cap, rfl, hl0⟩ := formWriter hv
  obtain ⟨-, ca, cc, rfl, -, -⟩ := hc
  simp only at *
  clear hv okc okm hs hsc
  have B0 := belowThen (belowThen (belowThen (ba w (.cells #[.slice ca ds.length cc, .int .i64 cop] 26)) (ba _ (.cells #[.int .i64 m.epoch, .slice a m.words.length cap] 29))) (ba _ (.cells #[.string d] 9))) (ba _ (.cells #[.int .i64 0, .slice none 0 0] 29))
  have D0 := (Bx.new ((w.alloc (.cells #[.slice ca ds.length cc, .int .i64 cop] 26)).alloc (.cells #[.int .i64 m.epoch, .slice a m.words.length cap] 29)) [.string d] 9).below (ba _ (.cells #[.int .i64 0, .slice none 0 0] 29))
  have Z0 := BxZ.new (B := w.heap.size) (((w.alloc (.cells #[.slice ca ds.length cc, .int .i64 cop] 26)).alloc (.cells #[.int .i64 m.epoch, .slice a m.words.length cap] 29)).alloc (.cells #[.string d] 9)) [.int .i64 0, .slice none 0 0] 29 (by simp <;> omega)
  have e2 : ((w.alloc (.cells #[.slice ca ds.length cc, .int .i64 cop] 26)).alloc (.cells #[.int .i64 m.epoch, .slice a m.words.length cap] 29)).heap.size = w.heap.size + 1 + 1 := by simp
  have e3 : (((w.alloc (.cells #[.slice ca ds.length cc, .int .i64 cop] 26)).alloc (.cells #[.int .i64 m.epoch, .slice a m.words.length cap] 29)).alloc (.cells #[.string d] 9)).heap.size = w.heap.size + 1 + 1 + 1 := by simp
  rw [e2] at D0
  rw [e3] at Z0
  replace D0 := dHide D0
  replace Z0 := dHide Z0
  clear e2 e3
  have hsz0 : Hid (w.heap.size + 1 + 1 + 1 + 1 = ((((w.alloc (.cells #[.slice ca ds.length cc, .int .i64 cop] 26)).alloc (.cells #[.int .i64 m.epoch, .slice a m.words.length cap] 29)).alloc (.cells #[.string d] 9)).alloc (.cells #[.int .i64 0, .slice none 0 0] 29)).heap.size) := by simp [Hid]
  go_enter Try.func15, Try.ntmps15
  go_wp2_with fail
  generalize (((w.alloc (.cells #[.slice ca ds.length cc, .int .i64 cop] 26)).alloc (.cells #[.int .i64 m.epoch, .slice a m.words.length cap] 29)).alloc (.cells #[.string d] 9)).alloc (.cells #[.int .i64 0, .slice none 0 0] 29) = w0 at *
  have hs0 := dUnhide hsz0
  refine (dUnhide CC w0 (w.heap.size + 1 + 1) B0 (by omega) (dUnhide D0 0 _ rfl)).mono ?_
  rintro e w1 ⟨⟨u1, rfl, N1⟩, b1⟩
  obtain ⟨ua, uc, rfl⟩ := N1.slice
  have B1 := belowThen B0 b1
  have Z1 := dHide ((dUnhide Z0).below b1)
  have s1 := b1.size
  have bA := ba w1 (.cells #[.int .i64 R.epoch, .slice ua R.words.length uc] 29)
  have O2 := dHide (BxZ.new (B := w.heap.size) w1 [.int .i64 R.epoch, .slice ua R.words.length uc] 29 (by omega))
  have Z2 := dHide ((dUnhide Z1).below bA)
  have N2 := dHide (N1.below bA)
  have B2 := belowThen B1 bA
  clear CC D0 Z0 Z1 B0 B1 b1 N1 bA
  obtain ⟨p0, -⟩ := (dUnhide O2).2 0 _ rfl
  obtain ⟨p1, -⟩ := (dUnhide O2).2 1 _ rfl
  obtain ⟨z0, f0⟩ := (dUnhide Z2).2 0 _ rfl
  obtain ⟨z1, f1⟩ := (dUnhide Z2).2 1 _ rfl
  have ZZ := dHide (((dUnhide Z2).put 0 (.int .i64 R.epoch)).put 1 (.slice ua R.words.length uc))
  have BB := dHide ((B2.setCell (p := ⟨w.heap.size + 1 + 1 + 1, 0, none⟩) (by simp only; omega) (.int .i64 R.epoch)).setCell (p := ⟨w.heap.size + 1 + 1 + 1, 1, none⟩) (by simp only; omega) (.slice ua R.words.length uc))
  have NV := dHide (((dUnhide N2).far (b := w.heap.size + 1 + 1 + 1) (o := 0) (by omega) (.int .i64 R.epoch)).far (b := w.heap.size + 1 + 1 + 1) (o := 1) (by omega) (.slice ua R.words.length uc))
  cases ok
  · have e := dUnhide AN rfl
    subst e
    clear AE AN
    go_wp2_with fail
    generalize w1.alloc (.cells #[.int .i64 R.epoch, .slice ua R.words.length uc] 29) = w2 at *
    generalize (w2.setCell ⟨w.heap.size + 1 + 1 + 1, 0, none⟩ (.int .i64 R.epoch)).setCell ⟨w.heap.size + 1 + 1 + 1, 1, none⟩ (.slice ua R.words.length uc) = V at *
    have q0 := ((dUnhide ZZ).2 0 _ rfl).1
    have q1 := ((dUnhide ZZ).2 1 _ rfl).1
    refine bodyPost_ret (v := .tuple #[.agg #[.int .i64 R.epoch, .slice ua R.words.length uc], .int .i64 0, .bool false]) (by simp [results, Try.results15, go_sem, q0, q1]) rfl ⟨⟨_, rfl, (dUnhide NV).mono (by omega)⟩, dUnhide BB⟩
  · have e := dUnhide AE rfl
    subst e
    have hne : w1.heap.size ≠ w.heap.size + 1 + 1 + 1 := by omega
    clear AE AN
    go_wp2_with fail
    generalize hw1 : w1.heap.size = ob at *
    generalize w1.alloc (.cells #[.int .i64 R.epoch, .slice ua R.words.length uc] 29) = w2 at *
    go_region_held3 (fun W => W.cell? ⟨ob, 0, none⟩ = some (.int .i64 R.epoch) ∧ W.cell? ⟨ob, 1, none⟩ = some (.slice ua R.words.length uc)) (first | exact ⟨p0, p1⟩ | exact ⟨set_other (set_other p0 (.inl hne)) (.inl hne), set_other (set_other p1 (.inl hne)) (.inl hne)⟩ | go_keep) (fail)
    all_goals
      go_wp2_with fail
      generalize (w2.setCell ⟨w.heap.size + 1 + 1 + 1, 0, none⟩ (.int .i64 R.epoch)).setCell ⟨w.heap.size + 1 + 1 + 1, 1, none⟩ (.slice ua R.words.length uc) = V at *
      have q0 := ((dUnhide ZZ).2 0 _ rfl).1
      have q1 := ((dUnhide ZZ).2 1 _ rfl).1
      refine bodyPost_ret (v := .tuple #[.agg #[.int .i64 R.epoch, .slice ua R.words.length uc], .int .i64 (R.words.length : Int), .bool true]) (by simp [results, Try.results15, go_sem, q0, q1]) rfl ⟨⟨_, rfl, ((dUnhide NV).below (Below.refl _ _).drew).mono (by omega)⟩, (dUnhide BB).drew⟩
end Go.Proofs.Ytjbfpmackocgnaa
