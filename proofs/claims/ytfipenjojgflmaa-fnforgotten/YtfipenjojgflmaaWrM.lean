/- spec.WriterForget (printed by tools/mkwrm.py). -/
import Derived.Test.YtfipenjojgflmaaWrL
import Derived.Deep.RegionHeld3
import Derived.Deep.DeepCutAuto
namespace Go.Proofs.Ytfipenjojgflmaa
open Go.ChangeShapes Go.WideShapes Go.ChangeAt Go.RowKit
set_option linter.unusedVariables false
set_option linter.unusedSimpArgs false
set_option maxRecDepth 100000

/-- A word of which a node is forgotten. -/
def forgW (x : Int) (e : Wd) : Wd := ⟨e.data, if e.done then e.acks else lessL e.acks [x], e.done⟩
open Classical in
/-- WriterForget. -/
noncomputable def forgM (ds : List Int) (cop : Int) (m : Wt) (x : Int) : Wt × Bool := if wrP ds cop m then (⟨m.epoch, m.words.map (forgW x)⟩, true) else (zeroWt, false)
theorem forgM_bad {ds : List Int} {cop : Int} {m : Wt} {x : Int} (h : ¬ wrP ds cop m) : forgM ds cop m x = (zeroWt, false) := if_neg h
theorem forgM_yes {ds : List Int} {cop : Int} {m : Wt} {x : Int} (h : wrP ds cop m) : forgM ds cop m x = (⟨m.epoch, m.words.map (forgW x)⟩, true) := if_pos h
/-- Of the first k words the node is forgotten. -/
def Forg (x : Int) (ms : List Wd) (k : Nat) (rs : List (Nst Wd)) : Prop := rs.length = ms.length ∧ ∀ i (h : i < rs.length) (h' : i < ms.length), (i < k → rs[i].m = forgW x ms[i]) ∧ (k ≤ i → rs[i].m = ms[i])
theorem Forg.start {x : Int} {ms : List Wd} {rs : List (Nst Wd)} (h : rs.map Nst.m = ms) : Forg x ms 0 rs := by
  subst h
  exact ⟨by simp, fun i h h' => ⟨fun h => by omega, fun _ => by simp⟩⟩
theorem Forg.fin {x : Int} {ms : List Wd} {rs : List (Nst Wd)} (h : Forg x ms ms.length rs) : rs.map Nst.m = ms.map (forgW x) := by
  apply List.ext_getElem
  · simp [h.1]
  · intro i h1 h2
    simp only [List.getElem_map]
    have hi : i < rs.length := by simpa using h1
    exact (h.2 i hi (by have := h.1; omega)).1 (by have := h.1; omega)
theorem Forg.skip {x : Int} {ms : List Wd} {k : Nat} {rs : List (Nst Wd)} (h : Forg x ms k rs) (hk : k < rs.length) (hd : rs[k].m.done = true) : Forg x ms (k + 1) rs := by
  refine ⟨h.1, fun i hi hi' => ⟨fun hik => ?_, fun hik => (h.2 i hi hi').2 (by omega)⟩⟩
  by_cases e : i = k
  · subst e
    have q := (h.2 i hi hi').2 (Nat.le_refl _)
    rw [q] at hd
    rw [q]
    unfold forgW
    rw [hd]
    simp only [if_true]
    rw [← hd]
  · exact (h.2 i hi hi').1 (by omega)
theorem Forg.step {x : Int} {ms : List Wd} {k : Nat} {rs : List (Nst Wd)} (h : Forg x ms k rs) (hk : k < rs.length) (hd : rs[k].m.done = false) (qa : Option Addr) (qc : Nat) : Forg x ms (k + 1) (rs.set k ⟨qa, qc, ⟨rs[k].m.data, lessL rs[k].m.acks [x], false⟩⟩) := by
  refine ⟨by rw [List.length_set]; exact h.1, fun i hi hi' => ?_⟩
  have hi2 : i < rs.length := by rw [List.length_set] at hi; exact hi
  by_cases e : i = k
  · subst e
    rw [List.getElem_set_self]
    refine ⟨fun _ => ?_, fun h => by omega⟩
    have q := (h.2 i hi2 hi').2 (Nat.le_refl _)
    rw [q] at hd
    unfold forgW
    rw [hd]
    simp only [q]
    rfl
  · rw [List.getElem_set_ne (Ne.symm e)]
    exact ⟨fun hik => (h.2 i hi2 hi').1 (by omega), fun hik => (h.2 i hi2 hi').2 (by omega)⟩
set_option maxHeartbeats 8000000 in
theorem specForget_any (cv v : Value) (c : List Int × Int) (m : Wt) (x : Int) (w : World) (hc : RdConfig cv c w) (hv : RdWriter v m w) (hs : sizWriter m ≤ 1048576) :
    Calls Try.prog 26 #[cv, v, .int .i64 x] w fun e w' => (∃ u, e = .returned (.tuple #[.agg #[.int .i64 (forgM c.1 c.2 m x).1.epoch, u], .bool (forgM c.1 c.2 m x).2]) ∧ WAp w' w.heap.size u (forgM c.1 c.2 m x).1.words) ∧ Below w.heap.size w w' := by
  have CO := dHide fun W (hb : Below w.heap.size w W) => specWriterOk_any cv v c m W (hc.below hb) (hv.below hb) (by omega)
  have CP := dHide fun W (hb : Below w.heap.size w W) => l8Copy_any v m W (hv.below hb) (by omega)
  obtain ⟨ds, cop⟩ := c
  obtain ⟨sc, rfl, hc⟩ := hc
  obtain ⟨a, cap, rfl, hl0⟩ := formWriter hv
  have hle : m.words.length ≤ 1048576 := by unfold sizWriter sizWordS at hs; omega
  have HL : Hid (∀ k (hk : k < m.words.length), m.words[k].acks.length ≤ 1048576) := fun k hk => by
    have h1 := sumW_mem (ms := m.words) hk
    unfold sizWriter sizWordS at hs
    omega
  simp only at *
  obtain ⟨-, ca, cc, rfl, -, -⟩ := hc
  clear hv
  have ba : ∀ (w : World) o, Below w.heap.size w (w.alloc o) := fun w o => (Below.refl _ _).alloc (Nat.le_refl _) o
  have B0 := belowThen (belowThen (ba w (.cells #[.slice ca ds.length cc, .int .i64 cop] 26)) (ba _ (.cells #[.int .i64 m.epoch, .slice a m.words.length cap] 29))) (ba _ (.cells #[.int .i64 0, .slice none 0 0] 29))
  have Y0 := (Bx.new (w.alloc (.cells #[.slice ca ds.length cc, .int .i64 cop] 26)) [.int .i64 m.epoch, .slice a m.words.length cap] 29).below (ba _ (.cells #[.int .i64 0, .slice none 0 0] 29))
  have Z0 := BxZ.new (B := w.heap.size) ((w.alloc (.cells #[.slice ca ds.length cc, .int .i64 cop] 26)).alloc (.cells #[.int .i64 m.epoch, .slice a m.words.length cap] 29)) [.int .i64 0, .slice none 0 0] 29 (by simp <;> omega)
  have e1 : (w.alloc (.cells #[.slice ca ds.length cc, .int .i64 cop] 26)).heap.size = w.heap.size + 1 := by simp
  have e2 : ((w.alloc (.cells #[.slice ca ds.length cc, .int .i64 cop] 26)).alloc (.cells #[.int .i64 m.epoch, .slice a m.words.length cap] 29)).heap.size = w.heap.size + 1 + 1 := by simp
  rw [e1] at Y0
  rw [e2] at Z0
  replace Y0 := dHide Y0
  replace Z0 := dHide Z0
  clear e1 e2
  have hsz0 : Hid (w.heap.size + 1 + 1 + 1 = (((w.alloc (.cells #[.slice ca ds.length cc, .int .i64 cop] 26)).alloc (.cells #[.int .i64 m.epoch, .slice a m.words.length cap] 29)).alloc (.cells #[.int .i64 0, .slice none 0 0] 29)).heap.size) := by simp [Hid]
  have RB : Hid (¬ wrP ds cop m → forgM ds cop m x = (zeroWt, false)) := forgM_bad
  have RY : Hid (wrP ds cop m → forgM ds cop m x = (⟨m.epoch, m.words.map (forgW x)⟩, true)) := forgM_yes
  generalize forgM ds cop m x = AM at *
  go_enter Try.func26, Try.ntmps26
  go_wp2_with fail
  generalize ((w.alloc (.cells #[.slice ca ds.length cc, .int .i64 cop] 26)).alloc (.cells #[.int .i64 m.epoch, .slice a m.words.length cap] 29)).alloc (.cells #[.int .i64 0, .slice none 0 0] 29) = w0 at *
  refine (dUnhide CO _ B0).mono ?_
  rintro e w1 ⟨⟨b1, rfl, h1⟩, bl1⟩
  have B1 := belowThen B0 bl1
  have Y1 := dHide ((dUnhide Y0).below bl1)
  have Z1 := dHide ((dUnhide Z0).below bl1)
  have s1 := bl1.size
  clear Y0 Z0 B0 bl1 CO
  cases b1
  · have e := dUnhide RB fun h => by have := h1.2 h; cases this
    subst e
    obtain ⟨z0, f0⟩ := (dUnhide Z1).2 0 _ rfl
    obtain ⟨z1, f1⟩ := (dUnhide Z1).2 1 _ rfl
    have ZZ := dHide (((dUnhide Z1).put 0 (.int .i64 0)).put 1 (.slice none 0 0))
    have BB := dHide ((B1.setCell (p := ⟨w.heap.size + 1 + 1, 0, none⟩) (by simp only; omega) (.int .i64 0)).setCell (p := ⟨w.heap.size + 1 + 1, 1, none⟩) (by simp only; omega) (.slice none 0 0))
    clear h1 RB RY CP Y1
    go_wp2_with fail
    generalize (w1.setCell ⟨w.heap.size + 1 + 1, 0, none⟩ (.int .i64 0)).setCell ⟨w.heap.size + 1 + 1, 1, none⟩ (.slice none 0 0) = V at *
    have q0 := ((dUnhide ZZ).2 0 _ rfl).1
    have q1 := ((dUnhide ZZ).2 1 _ rfl).1
    refine bodyPost_ret (v := .tuple #[.agg #[.int .i64 0, .slice none 0 0], .bool false]) (by simp [results, Try.results26, go_sem, q0, q1]) rfl ⟨⟨_, rfl, WAp.nil V w.heap.size none⟩, dUnhide BB⟩
  have e := dUnhide RY (h1.1 rfl)
  subst e
  clear RB RY h1
  have y0 := dUnhide Y1 0 _ rfl
  have y1 := dUnhide Y1 1 _ rfl
  have CP1 := dHide (dUnhide CP _ B1)
  go_wp2_with fail
  refine (dUnhide CP1).mono ?_
  rintro e w2 ⟨⟨u2, rfl, N2⟩, b2⟩
  obtain ⟨ua, uc, rfl⟩ := N2.slice
  have B2 := belowThen B1 b2
  have s2 := b2.size
  have Z2 := dHide ((dUnhide Z1).below b2)
  clear Y1 Z1 B1 b2 CP1 CP y0 y1
  have hw1 : w.heap.size + 3 ≤ w1.heap.size := by have := dUnhide hsz0; omega
  have bA := ba w2 (.cells #[.int .i64 m.epoch, .slice ua m.words.length uc] 29)
  have O3 := dHide (BxZ.new (B := w.heap.size) w2 [.int .i64 m.epoch, .slice ua m.words.length uc] 29 (by omega))
  have Z3 := dHide ((dUnhide Z2).below bA)
  have B3 := belowThen B2 bA
  have tv : Hid (∀ j, touch (.slice ua m.words.length uc) = some j → w1.heap.size ≤ j ∧ j < w2.heap.size) := fun j hj => N2.touched hj
  obtain ⟨r0, m1, P2⟩ := N2.ps
  have ob : Hid (∀ p ∈ r0, p.m.acks = [] ∨ blockOf (Sv Wd.acks p) ≠ w2.heap.size) := fun p hp => by
    rcases (P2.2.1 p hp).bs.lt with h | h
    · exact .inl h
    · exact .inr (by omega)
  have P3 := dHide (P2.below bA)
  have F3 := dHide (Forg.start (x := x) m1)
  have hs3 : w2.heap.size < (w2.alloc (.cells #[.int .i64 m.epoch, .slice ua m.words.length uc] 29)).heap.size := by simp
  have tn : Hid (touch (.slice ua m.words.length uc) ≠ some w2.heap.size) := fun e => by have := dUnhide tv _ e; omega
  clear N2 P2 m1 Z2 B2 tv
  go_wp2_with fail
  generalize hob : w2.heap.size = eb at *
  generalize w2.alloc (.cells #[.int .i64 m.epoch, .slice ua m.words.length uc] 29) = w3 at *
  go_loopw [9] (fun y wr => ∃ (k : Nat) (rs : List (Nst Wd)), y = .int .i64 (k : Int) ∧ k ≤ m.words.length ∧ Hid (WPs wr w1.heap.size (.slice ua m.words.length uc) rs) ∧ Hid (Forg x m.words k rs) ∧ Hid (∀ p ∈ rs, p.m.acks = [] ∨ blockOf (Sv Wd.acks p) ≠ eb) ∧ Hid (BxZ wr w.heap.size eb [.int .i64 m.epoch, .slice ua m.words.length uc]) ∧ Hid (BxZ wr w.heap.size (w.heap.size + 1 + 1) [.int .i64 0, .slice none 0 0]) ∧ eb < wr.heap.size ∧ Below w.heap.size w wr) (fun y _ => m.words.length - (intOf y).toNat)
  case atStart => exact ⟨0, r0, rfl, Nat.zero_le _, P3, F3, ob, O3, Z3, hs3, B3⟩
  case round =>
    obtain ⟨k, rs, rfl, hk, hP, hF, hL, hO, hZ, hbv, hb⟩ := hrel
    clear P3 F3 ob O3 Z3 B3 hs3 bA
    have o1 := ((dUnhide hO).2 1 _ rfl).1
    have hrl := (dUnhide hF).1
    by_cases hlt : (k : Int) < (m.words.length : Int)
    · have hkl : k < rs.length := by omega
      obtain ⟨g, cap', eg, hcg, hgb, hgl, htg⟩ := (dUnhide hP).head (by omega)
      simp only [Value.slice.injEq] at eg
      obtain ⟨rfl, -, rfl⟩ := eg
      have hgne : g ≠ eb := fun e => dUnhide tn (by rw [htg, e])
      obtain ⟨⟨-, c1, c2⟩, fz1, -⟩ := (dUnhide hP).cells hkl
      have hlk : rs[k].m.acks.length ≤ 1048576 := by
        have := ((dUnhide hF).2 k hkl (by omega)).2 (Nat.le_refl _)
        rw [this]
        exact dUnhide HL k (by omega)
      have NZ : Hid (∀ W, Below wr.heap.size wr W → (W.cell? ⟨g, k * 3 + 1, none⟩ = some (.slice rs[k].a rs[k].m.acks.length rs[k].c) ∧ W.frozen? ⟨g, k * 3 + 1, none⟩ = false) ∧ W.cell? ⟨eb, 1, none⟩ = some (.slice (some ⟨g, 0, none⟩) m.words.length uc)) := fun W hB => ⟨⟨(hB.cell (p := ⟨g, k * 3 + 1, none⟩) (dCell_lt c1)).trans c1, (hB.frozen (p := ⟨g, k * 3 + 1, none⟩) (dCell_lt c1)).trans fz1⟩, (hB.cell (p := ⟨eb, 1, none⟩) (dCell_lt o1)).trans o1⟩
      cases hd : rs[k].m.done with
      | true =>
        rw [hd] at c2
        have F2 := dHide ((dUnhide hF).skip hkl hd)
        clear hF NZ c1 fz1 hd hlk
        go_wp2
        go_roundw
        case rel => exact ⟨k + 1, rs, by go_num, by omega, hP, F2, hL, hO, hZ, hbv, hb⟩
        case measure => simp [intOf]; omega
      | false =>
        rw [hd] at c2
        have ST : Hid (∀ (w5 : World) (qa : Option Addr) (qc : Nat), Below wr.heap.size wr w5 → OwnN w5 wr.heap.size (.slice qa (lessL rs[k].m.acks [x]).length qc) (lessL rs[k].m.acks [x]) → ∃ rs', WPs (w5.setCell ⟨g, k * 3 + 1, none⟩ (.slice qa (lessL rs[k].m.acks [x]).length qc)) w1.heap.size (.slice (some ⟨g, 0, none⟩) m.words.length uc) rs' ∧ Forg x m.words (k + 1) rs' ∧ ∀ p ∈ rs', p.m.acks = [] ∨ blockOf (Sv Wd.acks p) ≠ eb) := fun w5 qa qc hB hO => by
          have hbw : w1.heap.size ≤ wr.heap.size := by omega
          have U := (dUnhide hP).upd hkl (grownBy_of_below hB) (.inl rfl) ⟨qa, qc, ⟨rs[k].m.data, lessL rs[k].m.acks [x], false⟩⟩ (hO.mono hbw) (by
            rcases hO.ge with h | h
            · exact .inl h
            · exact .inr (.inr h)) rfl hd.symm
          refine ⟨_, U, (dUnhide hF).step hkl hd qa qc, fun p hp => ?_⟩
          obtain ⟨i, hi, rfl⟩ := List.mem_iff_getElem.1 hp
          have hi2 : i < rs.length := by rw [List.length_set] at hi; exact hi
          by_cases e : i = k
          · subst e
            rw [List.getElem_set_self]
            rcases hO.ge with h | h
            · exact .inl h
            · right
              have e9 : blockOf (Sv Wd.acks (⟨qa, qc, ⟨rs[i].m.data, lessL rs[i].m.acks [x], false⟩⟩ : Nst Wd)) = blockOf (.slice qa (lessL rs[i].m.acks [x]).length qc) := rfl
              rw [e9]
              omega
          · rw [List.getElem_set_ne (Ne.symm e)]
            exact dUnhide hL _ (List.getElem_mem hi2)
        have bA := belowThen (show Below wr.heap.size wr wr.drew from (Below.refl _ _).drew) (ba _ (.cells #[.int .i64 x] 3))
        have ON : Ns (wr.drew.alloc (.cells #[.int .i64 x] 3)) (.slice (some ⟨wr.heap.size, 0, none⟩) 1 1) [x] := by
          refine ⟨by simp, _, _, rfl, by simp, .inr ⟨wr.heap.size, 0, rfl, fun i hi => ?_⟩⟩
          obtain rfl : i = 0 := by simp at hi; omega
          exact Bx.new wr.drew [.int .i64 x] 3 0 _ rfl
        have CL := dHide (l4Less_any _ _ rs[k].m.acks [x] _ (((dUnhide hP).2.1 _ (List.getElem_mem hkl)).bs.below bA) ON (by omega))
        have pb := (dUnhide NZ wr (Below.refl _ _)).2
        unfold Sv at CL
        generalize rs[k] = y at *
        obtain ⟨ya, yc, yd, yn, yb⟩ := y
        simp only at CL ST NZ c1
        generalize lessL yn [x] = ln at *
        clear hd hP hF hL ON
        go_wp2_with fail
        refine wp_region_noPanic ?_
        refine wp_region_held_drew (S := fun W => W.cell? ⟨eb, 1, none⟩ = some (.slice (some ⟨g, 0, none⟩) m.words.length uc)) (by kernel_rfl) (by first | exact pb | exact (dUnhide NZ _ bA).2 | exact p5 | exact set_other p5 (.inl (Ne.symm hgne)) | go_keep) (fun hHeld => ?_)
        refine wpAnyH_take (i := 0) (oi := { dst := some 31, op := Op.fieldAddr 29 (Operand.tmp 8) 1, type := 0, pos := "l08_writer.go:64", after := #[], guard := none }) (v := ?_) rfl (by kernel_rfl) (by kernel_rfl) (by kernel_rfl) (fun _ _ _ h => h) (Or.inl ⟨by rfl, ?_⟩) (by assumption) ?_
        rotate_left 1
        · intro w hSw
          (try dsimp only at hSw)
          first | (go_simp; done) | (go_simp; with_reducible rfl)
        try simp only [Act.put, List.setIfInBounds_toArray, List.set_cons_zero, List.set_cons_succ]
        refine wpAnyH_take (i := 1) (oi := { dst := some 32, op := Op.load 27 (Operand.tmp 31), type := 27, pos := "l08_writer.go:64", after := #[{ on := 0, ground := Ground.data }], guard := none }) (v := ?_) rfl (by kernel_rfl) (by kernel_rfl) (by kernel_rfl) (fun _ _ _ h => h) (Or.inl ⟨by rfl, ?_⟩) (by assumption) ?_
        rotate_left 1
        · intro w hSw
          (try dsimp only at hSw)
          first | (go_simp; done) | (go_simp; with_reducible rfl)
        try simp only [Act.put, List.setIfInBounds_toArray, List.set_cons_zero, List.set_cons_succ]
        refine wpAnyH_take (i := 2) (oi := { dst := some 33, op := Op.move (Operand.tmp 9), type := 3, pos := "l08_writer.go:64", after := #[], guard := none }) (v := ?_) rfl (by kernel_rfl) (by kernel_rfl) (by kernel_rfl) (fun _ _ _ h => h) (Or.inl ⟨by rfl, ?_⟩) (by assumption) ?_
        rotate_left 1
        · intro w hSw
          (try dsimp only at hSw)
          first | (go_simp; done) | (go_simp; with_reducible rfl)
        try simp only [Act.put, List.setIfInBounds_toArray, List.set_cons_zero, List.set_cons_succ]
        refine wpAnyH_take (i := 3) (oi := { dst := some 34, op := Op.fieldAddr 29 (Operand.tmp 8) 1, type := 0, pos := "l08_writer.go:64", after := #[], guard := none }) (v := ?_) rfl (by kernel_rfl) (by kernel_rfl) (by kernel_rfl) (fun _ _ _ h => h) (Or.inl ⟨by rfl, ?_⟩) (by assumption) ?_
        rotate_left 1
        · intro w hSw
          (try dsimp only at hSw)
          first | (go_simp; done) | (go_simp; with_reducible rfl)
        try simp only [Act.put, List.setIfInBounds_toArray, List.set_cons_zero, List.set_cons_succ]
        refine wpAnyH_take (i := 4) (oi := { dst := some 35, op := Op.load 27 (Operand.tmp 34), type := 27, pos := "l08_writer.go:64", after := #[{ on := 3, ground := Ground.data }], guard := none }) (v := ?_) rfl (by kernel_rfl) (by kernel_rfl) (by kernel_rfl) (fun _ _ _ h => h) (Or.inl ⟨by rfl, ?_⟩) (by assumption) ?_
        rotate_left 1
        · intro w hSw
          (try dsimp only at hSw)
          first | (go_simp; done) | (go_simp; with_reducible rfl)
        try simp only [Act.put, List.setIfInBounds_toArray, List.set_cons_zero, List.set_cons_succ]
        refine wpAnyH_take (i := 5) (oi := { dst := some 36, op := Op.move (Operand.tmp 9), type := 3, pos := "l08_writer.go:64", after := #[], guard := none }) (v := ?_) rfl (by kernel_rfl) (by kernel_rfl) (by kernel_rfl) (fun _ _ _ h => h) (Or.inl ⟨by rfl, ?_⟩) (by assumption) ?_
        rotate_left 1
        · intro w hSw
          (try dsimp only at hSw)
          first | (go_simp; done) | (go_simp; with_reducible rfl)
        try simp only [Act.put, List.setIfInBounds_toArray, List.set_cons_zero, List.set_cons_succ]
        refine wpAnyH_take (i := 6) (oi := { dst := some 37, op := Op.indexAddr 27 (Operand.tmp 35) (Operand.tmp 36), type := 0, pos := "l08_writer.go:64", after := #[{ on := 4, ground := Ground.data }, { on := 5, ground := Ground.data }], guard := none }) (v := ?_) rfl (by kernel_rfl) (by kernel_rfl) (by kernel_rfl) (fun _ _ _ h => h) (Or.inl ⟨by rfl, ?_⟩) (by assumption) ?_
        rotate_left 1
        · intro w hSw
          (try dsimp only at hSw)
          first | (go_simp; done) | (go_simp; with_reducible rfl)
        try simp only [Act.put, List.setIfInBounds_toArray, List.set_cons_zero, List.set_cons_succ]
        refine wpAnyH_take (i := 7) (oi := { dst := some 38, op := Op.fieldAddr 35 (Operand.tmp 37) 1, type := 0, pos := "l08_writer.go:64", after := #[{ on := 6, ground := Ground.data }], guard := none }) (v := ?_) rfl (by kernel_rfl) (by kernel_rfl) (by kernel_rfl) (fun _ _ _ h => h) (Or.inl ⟨by rfl, ?_⟩) (by assumption) ?_
        rotate_left 1
        · intro w hSw
          (try dsimp only at hSw)
          first | (go_simp; done) | (go_simp; with_reducible rfl)
        try simp only [Act.put, List.setIfInBounds_toArray, List.set_cons_zero, List.set_cons_succ]
        refine wpAnyH_take (i := 9) (oi := { dst := some 40, op := Op.move (Operand.tmp 2), type := 3, pos := "l08_writer.go:64", after := #[], guard := none }) (v := ?_) rfl (by kernel_rfl) (by kernel_rfl) (by kernel_rfl) (fun _ _ _ h => h) (Or.inl ⟨by rfl, ?_⟩) (by assumption) ?_
        rotate_left 1
        · intro w hSw
          (try dsimp only at hSw)
          first | (go_simp; done) | (go_simp; with_reducible rfl)
        try simp only [Act.put, List.setIfInBounds_toArray, List.set_cons_zero, List.set_cons_succ]
        refine wpAnyH_ready (rs := [8, 10]) (by kernel_rfl) (by simp) ?_
        refine AllReadyH.cons (o := { dst := some 39, op := Op.load 24 (Operand.tmp 38), type := 24, pos := "l08_writer.go:64", after := #[{ on := 7, ground := Ground.data }], guard := none }) rfl (fun K hK => ?_) (AllReadyH.cons (o := { dst := some 41, op := Op.buildSlice 24 1 #[(0, Operand.tmp 40)], type := 24, pos := "l08_writer.go:64", after := #[{ on := 9, ground := Ground.data }], guard := none }) rfl (fun K hK => ?_) AllReadyH.nil)
        · go_simp
          refine hK.out _ _ (by first | exact pb | exact (dUnhide NZ _ bA).2 | exact p5 | exact set_other p5 (.inl (Ne.symm hgne)) | go_keep) (fun hHeld => ?_)
          clear hK K
          try simp only [Act.put, List.setIfInBounds_toArray, List.set_cons_zero, List.set_cons_succ]
          refine wpAnyH_ready (rs := [10]) (by kernel_rfl) (by simp) ?_
          refine AllReadyH.cons (o := { dst := some 41, op := Op.buildSlice 24 1 #[(0, Operand.tmp 40)], type := 24, pos := "l08_writer.go:64", after := #[{ on := 9, ground := Ground.data }], guard := none }) rfl (fun K hK => ?_) AllReadyH.nil
          go_simp
          have nz := (dUnhide NZ _ bA).1
          refine hK.out _ _ (by first | exact pb | exact (dUnhide NZ _ bA).2 | exact p5 | exact set_other p5 (.inl (Ne.symm hgne)) | go_keep) (fun hHeld => ?_)
          clear hK K
          try simp only [Act.put, List.setIfInBounds_toArray, List.set_cons_zero, List.set_cons_succ]
          refine wpAnyH_ready (rs := [11]) (by kernel_rfl) (by simp) ?_
          refine AllReadyH.cons (o := { dst := some 42, op := Op.call { callee := Callee.value (Operand.func 61), args := #[Operand.tmp 39, Operand.tmp 41], argTypes := #[24, 24] }, type := 24, pos := "l08_writer.go:64", after := #[{ on := 8, ground := Ground.data }, { on := 10, ground := Ground.data }], guard := none }) rfl (fun K hK => ?_) AllReadyH.nil
          go_simp
          refine (dUnhide CL).mono ?_
          rintro e w5 ⟨⟨u5, rfl, R5⟩, b5⟩
          have O5 := ownN_of_row R5
          obtain ⟨-, qa, qc, rfl, -, -⟩ := O5.bs
          have hb5 : Below wr.heap.size wr w5 := belowThen bA b5
          have sz5 := hb5.size
          obtain ⟨rs', S5, F5, L5⟩ := dUnhide ST w5 qa qc hb5 (O5.mono (by simp))
          obtain ⟨⟨c5, f5⟩, p5⟩ := dUnhide NZ w5 hb5
          have HS5 := dHide S5
          have HF5 := dHide F5
          have HL5 := dHide L5
          have OB5 := dHide ((dUnhide hO).below hb5)
          have ZB5 := dHide ((dUnhide hZ).below hb5)
          have BB5 := dHide (belowThen hb hb5)
          clear S5 F5 L5 R5 O5 b5
          (try go_wp2_with fail)
          refine hK.out _ _ (by first | exact pb | exact (dUnhide NZ _ bA).2 | exact p5 | exact set_other p5 (.inl (Ne.symm hgne)) | go_keep) (fun hHeld => ?_)
          clear hK K
          try simp only [Act.put, List.setIfInBounds_toArray, List.set_cons_zero, List.set_cons_succ]
          refine wpAnyH_take (i := 12) (oi := { dst := some 43, op := Op.indexAddr 27 (Operand.tmp 32) (Operand.tmp 33), type := 0, pos := "l08_writer.go:64", after := #[{ on := 1, ground := Ground.data }, { on := 2, ground := Ground.data }, { on := 0, ground := Ground.phase }, { on := 1, ground := Ground.phase }, { on := 2, ground := Ground.phase }, { on := 3, ground := Ground.phase }, { on := 4, ground := Ground.phase }, { on := 5, ground := Ground.phase }, { on := 6, ground := Ground.phase }, { on := 7, ground := Ground.phase }, { on := 8, ground := Ground.phase }, { on := 9, ground := Ground.phase }, { on := 10, ground := Ground.phase }, { on := 11, ground := Ground.phase }], guard := none }) (v := ?_) rfl (by kernel_rfl) (by kernel_rfl) (by kernel_rfl) (fun _ _ _ h => h) (Or.inl ⟨by rfl, ?_⟩) (by assumption) ?_
          rotate_left 1
          · intro w hSw
            (try dsimp only at hSw)
            first | (go_simp; done) | (go_simp; with_reducible rfl)
          try simp only [Act.put, List.setIfInBounds_toArray, List.set_cons_zero, List.set_cons_succ]
          refine wpAnyH_take (i := 13) (oi := { dst := some 44, op := Op.fieldAddr 35 (Operand.tmp 43) 1, type := 0, pos := "l08_writer.go:64", after := #[{ on := 12, ground := Ground.data }, { on := 0, ground := Ground.phase }, { on := 1, ground := Ground.phase }, { on := 2, ground := Ground.phase }, { on := 3, ground := Ground.phase }, { on := 4, ground := Ground.phase }, { on := 5, ground := Ground.phase }, { on := 6, ground := Ground.phase }, { on := 7, ground := Ground.phase }, { on := 8, ground := Ground.phase }, { on := 9, ground := Ground.phase }, { on := 10, ground := Ground.phase }, { on := 11, ground := Ground.phase }], guard := none }) (v := ?_) rfl (by kernel_rfl) (by kernel_rfl) (by kernel_rfl) (fun _ _ _ h => h) (Or.inl ⟨by rfl, ?_⟩) (by assumption) ?_
          rotate_left 1
          · intro w hSw
            (try dsimp only at hSw)
            first | (go_simp; done) | (go_simp; with_reducible rfl)
          try simp only [Act.put, List.setIfInBounds_toArray, List.set_cons_zero, List.set_cons_succ]
          refine wpAnyH_ready (rs := [14]) (by kernel_rfl) (by simp) ?_
          refine AllReadyH.cons (o := { dst := none, op := Op.store 24 (Operand.tmp 44) (Operand.tmp 42), type := 0, pos := "l08_writer.go:64", after := #[{ on := 13, ground := Ground.data }, { on := 11, ground := Ground.data }, { on := 11, ground := Ground.chain }, { on := 0, ground := Ground.phase }, { on := 1, ground := Ground.phase }, { on := 2, ground := Ground.phase }, { on := 3, ground := Ground.phase }, { on := 4, ground := Ground.phase }, { on := 5, ground := Ground.phase }, { on := 6, ground := Ground.phase }, { on := 7, ground := Ground.phase }, { on := 8, ground := Ground.phase }, { on := 9, ground := Ground.phase }, { on := 10, ground := Ground.phase }, { on := 11, ground := Ground.phase }], guard := none }) rfl (fun K hK => ?_) AllReadyH.nil
          go_simp
          refine hK.out _ _ (by first | exact pb | exact (dUnhide NZ _ bA).2 | exact p5 | exact set_other p5 (.inl (Ne.symm hgne)) | go_keep) (fun hHeld => ?_)
          clear hK K
          try simp only [Act.put, List.setIfInBounds_toArray, List.set_cons_zero, List.set_cons_succ]
          refine wpAnyH_done (by kernel_rfl) ?_ _
          refine NoPanic.normal ?_
          go_wp2_with fail
          go_roundw
          case rel => exact ⟨k + 1, rs', by go_num, by omega, HS5, HF5, HL5, (dUnhide OB5).far (Ne.symm hgne) _, (dUnhide ZB5).far (by omega) _, by rw [World.size_setCell]; omega, (dUnhide BB5).setCell (p := ⟨g, k * 3 + 1, none⟩) (by simp only; omega) _⟩
          case measure => simp [intOf]; omega
        · go_simp
          have nz := (dUnhide NZ _ bA).1
          refine hK.out _ _ (by first | exact pb | exact (dUnhide NZ _ bA).2 | exact p5 | exact set_other p5 (.inl (Ne.symm hgne)) | go_keep) (fun hHeld => ?_)
          clear hK K
          try simp only [Act.put, List.setIfInBounds_toArray, List.set_cons_zero, List.set_cons_succ]
          refine wpAnyH_ready (rs := [8]) (by kernel_rfl) (by simp) ?_
          refine AllReadyH.cons (o := { dst := some 39, op := Op.load 24 (Operand.tmp 38), type := 24, pos := "l08_writer.go:64", after := #[{ on := 7, ground := Ground.data }], guard := none }) rfl (fun K hK => ?_) AllReadyH.nil
          go_simp
          refine hK.out _ _ (by first | exact pb | exact (dUnhide NZ _ bA).2 | exact p5 | exact set_other p5 (.inl (Ne.symm hgne)) | go_keep) (fun hHeld => ?_)
          clear hK K
          try simp only [Act.put, List.setIfInBounds_toArray, List.set_cons_zero, List.set_cons_succ]
          refine wpAnyH_ready (rs := [11]) (by kernel_rfl) (by simp) ?_
          refine AllReadyH.cons (o := { dst := some 42, op := Op.call { callee := Callee.value (Operand.func 61), args := #[Operand.tmp 39, Operand.tmp 41], argTypes := #[24, 24] }, type := 24, pos := "l08_writer.go:64", after := #[{ on := 8, ground := Ground.data }, { on := 10, ground := Ground.data }], guard := none }) rfl (fun K hK => ?_) AllReadyH.nil
          go_simp
          refine (dUnhide CL).mono ?_
          rintro e w5 ⟨⟨u5, rfl, R5⟩, b5⟩
          have O5 := ownN_of_row R5
          obtain ⟨-, qa, qc, rfl, -, -⟩ := O5.bs
          have hb5 : Below wr.heap.size wr w5 := belowThen bA b5
          have sz5 := hb5.size
          obtain ⟨rs', S5, F5, L5⟩ := dUnhide ST w5 qa qc hb5 (O5.mono (by simp))
          obtain ⟨⟨c5, f5⟩, p5⟩ := dUnhide NZ w5 hb5
          have HS5 := dHide S5
          have HF5 := dHide F5
          have HL5 := dHide L5
          have OB5 := dHide ((dUnhide hO).below hb5)
          have ZB5 := dHide ((dUnhide hZ).below hb5)
          have BB5 := dHide (belowThen hb hb5)
          clear S5 F5 L5 R5 O5 b5
          (try go_wp2_with fail)
          refine hK.out _ _ (by first | exact pb | exact (dUnhide NZ _ bA).2 | exact p5 | exact set_other p5 (.inl (Ne.symm hgne)) | go_keep) (fun hHeld => ?_)
          clear hK K
          try simp only [Act.put, List.setIfInBounds_toArray, List.set_cons_zero, List.set_cons_succ]
          refine wpAnyH_take (i := 12) (oi := { dst := some 43, op := Op.indexAddr 27 (Operand.tmp 32) (Operand.tmp 33), type := 0, pos := "l08_writer.go:64", after := #[{ on := 1, ground := Ground.data }, { on := 2, ground := Ground.data }, { on := 0, ground := Ground.phase }, { on := 1, ground := Ground.phase }, { on := 2, ground := Ground.phase }, { on := 3, ground := Ground.phase }, { on := 4, ground := Ground.phase }, { on := 5, ground := Ground.phase }, { on := 6, ground := Ground.phase }, { on := 7, ground := Ground.phase }, { on := 8, ground := Ground.phase }, { on := 9, ground := Ground.phase }, { on := 10, ground := Ground.phase }, { on := 11, ground := Ground.phase }], guard := none }) (v := ?_) rfl (by kernel_rfl) (by kernel_rfl) (by kernel_rfl) (fun _ _ _ h => h) (Or.inl ⟨by rfl, ?_⟩) (by assumption) ?_
          rotate_left 1
          · intro w hSw
            (try dsimp only at hSw)
            first | (go_simp; done) | (go_simp; with_reducible rfl)
          try simp only [Act.put, List.setIfInBounds_toArray, List.set_cons_zero, List.set_cons_succ]
          refine wpAnyH_take (i := 13) (oi := { dst := some 44, op := Op.fieldAddr 35 (Operand.tmp 43) 1, type := 0, pos := "l08_writer.go:64", after := #[{ on := 12, ground := Ground.data }, { on := 0, ground := Ground.phase }, { on := 1, ground := Ground.phase }, { on := 2, ground := Ground.phase }, { on := 3, ground := Ground.phase }, { on := 4, ground := Ground.phase }, { on := 5, ground := Ground.phase }, { on := 6, ground := Ground.phase }, { on := 7, ground := Ground.phase }, { on := 8, ground := Ground.phase }, { on := 9, ground := Ground.phase }, { on := 10, ground := Ground.phase }, { on := 11, ground := Ground.phase }], guard := none }) (v := ?_) rfl (by kernel_rfl) (by kernel_rfl) (by kernel_rfl) (fun _ _ _ h => h) (Or.inl ⟨by rfl, ?_⟩) (by assumption) ?_
          rotate_left 1
          · intro w hSw
            (try dsimp only at hSw)
            first | (go_simp; done) | (go_simp; with_reducible rfl)
          try simp only [Act.put, List.setIfInBounds_toArray, List.set_cons_zero, List.set_cons_succ]
          refine wpAnyH_ready (rs := [14]) (by kernel_rfl) (by simp) ?_
          refine AllReadyH.cons (o := { dst := none, op := Op.store 24 (Operand.tmp 44) (Operand.tmp 42), type := 0, pos := "l08_writer.go:64", after := #[{ on := 13, ground := Ground.data }, { on := 11, ground := Ground.data }, { on := 11, ground := Ground.chain }, { on := 0, ground := Ground.phase }, { on := 1, ground := Ground.phase }, { on := 2, ground := Ground.phase }, { on := 3, ground := Ground.phase }, { on := 4, ground := Ground.phase }, { on := 5, ground := Ground.phase }, { on := 6, ground := Ground.phase }, { on := 7, ground := Ground.phase }, { on := 8, ground := Ground.phase }, { on := 9, ground := Ground.phase }, { on := 10, ground := Ground.phase }, { on := 11, ground := Ground.phase }], guard := none }) rfl (fun K hK => ?_) AllReadyH.nil
          go_simp
          refine hK.out _ _ (by first | exact pb | exact (dUnhide NZ _ bA).2 | exact p5 | exact set_other p5 (.inl (Ne.symm hgne)) | go_keep) (fun hHeld => ?_)
          clear hK K
          try simp only [Act.put, List.setIfInBounds_toArray, List.set_cons_zero, List.set_cons_succ]
          refine wpAnyH_done (by kernel_rfl) ?_ _
          refine NoPanic.normal ?_
          go_wp2_with fail
          go_roundw
          case rel => exact ⟨k + 1, rs', by go_num, by omega, HS5, HF5, HL5, (dUnhide OB5).far (Ne.symm hgne) _, (dUnhide ZB5).far (by omega) _, by rw [World.size_setCell]; omega, (dUnhide BB5).setCell (p := ⟨g, k * 3 + 1, none⟩) (by simp only; omega) _⟩
          case measure => simp [intOf]; omega
    · have ek : k = m.words.length := by omega
      subst ek
      have NF : Hid (WAp wr w1.heap.size (.slice ua m.words.length uc) (m.words.map (forgW x))) := by
        have := (dUnhide hP).ap
        rw [(dUnhide hF).fin] at this
        exact this
      obtain ⟨z0, s0⟩ := (dUnhide hO).2 0 _ rfl
      obtain ⟨y0, p0⟩ := (dUnhide hZ).2 0 _ rfl
      obtain ⟨y1, p1⟩ := (dUnhide hZ).2 1 _ rfl
      have YY := dHide (((dUnhide hZ).put 0 (.int .i64 m.epoch)).put 1 (.slice ua m.words.length uc))
      have OO := dHide (((dUnhide NF).far (b := w.heap.size + 1 + 1) (o := 0) (by omega) (.int .i64 m.epoch)).far (b := w.heap.size + 1 + 1) (o := 1) (by omega) (.slice ua m.words.length uc))
      have BB := dHide ((hb.setCell (p := ⟨w.heap.size + 1 + 1, 0, none⟩) (by simp only; omega) (.int .i64 m.epoch)).setCell (p := ⟨w.heap.size + 1 + 1, 1, none⟩) (by simp only; omega) (.slice ua m.words.length uc))
      clear hP hF hL HL NF
      go_wp2_with fail
      generalize (wr.setCell ⟨w.heap.size + 1 + 1, 0, none⟩ (.int .i64 m.epoch)).setCell ⟨w.heap.size + 1 + 1, 1, none⟩ (.slice ua m.words.length uc) = V at *
      have q0 := ((dUnhide YY).2 0 _ rfl).1
      have q1 := ((dUnhide YY).2 1 _ rfl).1
      clear z0 s0 y0 y1 p0 p1 o1
      refine bodyPost_ret (v := .tuple #[.agg #[.int .i64 m.epoch, .slice ua m.words.length uc], .bool true]) (by simp [results, Try.results26, go_sem, q0, q1]) rfl ⟨⟨_, rfl, (dUnhide OO).mono (by omega)⟩, dUnhide BB⟩
end Go.Proofs.Ytfipenjojgflmaa
