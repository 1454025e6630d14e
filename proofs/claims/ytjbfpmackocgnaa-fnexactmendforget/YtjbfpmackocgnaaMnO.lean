/- spec's MendForget (printed by tools/mkmno.py). -/
import Derived.Test.YtjbfpmackocgnaaMnI
import Derived.Test.YtjbfpmackocgnaaGaC
import Derived.Deep.RegionHeld3
import Derived.Deep.DeepCutAuto
namespace Go.Proofs.Ytjbfpmackocgnaa
open Go.ChangeShapes Go.WideShapes Go.ChangeAt Go.RowKit
set_option linter.unusedVariables false
set_option linter.unusedSimpArgs false
set_option maxRecDepth 100000

/-- A mend of which a node is forgotten. -/
def forg9W (m : Mn) (x : Int) : Mn := ⟨m.bye, m.epoch, m.sealed, m.seen, m.planned, m.wrote.map fun l => lessL l [x]⟩
open Classical in
/-- MendForget. -/
noncomputable def forg9M (ds : List Int) (cop : Int) (m : Mn) (x : Int) : Mn × Bool := if mnP ds cop m then (forg9W m x, true) else (zeroMn, false)
theorem forg9M_bad {ds : List Int} {cop : Int} {m : Mn} {x : Int} (h : ¬ mnP ds cop m) : forg9M ds cop m x = (zeroMn, false) := if_neg h
theorem forg9M_yes {ds : List Int} {cop : Int} {m : Mn} {x : Int} (h : mnP ds cop m) : forg9M ds cop m x = (forg9W m x, true) := if_pos h
/-- Of the first k lists the node is forgotten. -/
def Forg9 (x : Int) (ms : List (List Int)) (k : Nat) (rs : List (Nst (List Int))) : Prop := rs.length = ms.length ∧ ∀ i (h : i < rs.length) (h' : i < ms.length), (i < k → rs[i].m = lessL ms[i] [x]) ∧ (k ≤ i → rs[i].m = ms[i])
theorem Forg9.start {x : Int} {ms : List (List Int)} {rs : List (Nst (List Int))} (h : rs.map Nst.m = ms) : Forg9 x ms 0 rs := by
  subst h
  exact ⟨by simp, fun i h h' => ⟨fun h => by omega, fun _ => by simp⟩⟩
theorem Forg9.fin {x : Int} {ms : List (List Int)} {rs : List (Nst (List Int))} (h : Forg9 x ms ms.length rs) : rs.map Nst.m = ms.map fun l => lessL l [x] := by
  apply List.ext_getElem
  · simp [h.1]
  · intro i h1 h2
    simp only [List.getElem_map]
    have hi : i < rs.length := by simpa using h1
    exact (h.2 i hi (by have := h.1; omega)).1 (by have := h.1; omega)
theorem Forg9.skip {x : Int} {ms : List (List Int)} {k : Nat} {rs : List (Nst (List Int))} (h : Forg9 x ms k rs) (hk : k < rs.length) (hd : lessL rs[k].m [x] = rs[k].m) : Forg9 x ms (k + 1) rs := by
  refine ⟨h.1, fun i hi hi' => ⟨fun hik => ?_, fun hik => (h.2 i hi hi').2 (by omega)⟩⟩
  by_cases e : i = k
  · subst e
    have q := (h.2 i hi hi').2 (Nat.le_refl _)
    rw [← q, hd]
  · exact (h.2 i hi hi').1 (by omega)
theorem Forg9.step {x : Int} {ms : List (List Int)} {k : Nat} {rs : List (Nst (List Int))} (h : Forg9 x ms k rs) (hk : k < rs.length) (p : Nst (List Int)) (hp : p.m = lessL rs[k].m [x]) : Forg9 x ms (k + 1) (rs.set k p) := by
  refine ⟨by rw [List.length_set]; exact h.1, fun i hi hi' => ?_⟩
  have hi2 : i < rs.length := by rw [List.length_set] at hi; exact hi
  by_cases e : i = k
  · subst e
    rw [List.getElem_set_self]
    refine ⟨fun _ => ?_, fun h => by omega⟩
    have q := (h.2 i hi2 hi').2 (Nat.le_refl _)
    rw [hp, q]
  · rw [List.getElem_set_ne (Ne.symm e)]
    exact ⟨fun hik => (h.2 i hi2 hi').1 (by omega), fun hik => (h.2 i hi2 hi').2 (by omega)⟩
set_option maxHeartbeats 8000000 in
theorem specForget9_any (cv v : Value) (c : List Int × Int) (m : Mn) (node : Int) (w : World) (hc : RdConfig cv c w) (hv : RdMend v m w) (hf : fitE m.seen) (hs : sizMend m ≤ 1048576) (hsc : c.1.length ≤ 1048576) :
    Calls Try.prog 50 #[cv, v, .int .i64 node] w fun e w' => (∃ u, e = .returned (.tuple #[u, .bool (forg9M c.1 c.2 m node).2]) ∧ OwMend w.heap.size w'.heap.size u (forg9M c.1 c.2 m node).1 w') ∧ Below w.heap.size w w' := by
  have ba : ∀ (w : World) o, Below w.heap.size w (w.alloc o) := fun w o => (Below.refl _ _).alloc (Nat.le_refl _) o
  have CM := dHide fun W (hb : Below w.heap.size w W) => specMendOk_any cv v c m W (hc.below hb) (hv.below hb) hf
  have CP := dHide fun W (hb : Below w.heap.size w W) => l9Copy_any v m W (hv.below hb) (by omega)
  obtain ⟨ds, cop⟩ := c
  obtain ⟨ca, cc, rfl, -⟩ := formConfig hc
  obtain ⟨sa, sc, ea, ec, wa, wz, rfl, hl1, hl2, hl3⟩ := formMend hv
  simp only at *
  have hwl : Hid (∀ k (h : k < m.wrote.length), m.wrote[k].length ≤ 1048576) := fun k hk => by
    have q := sumL_mem (ms := m.wrote) (k := k) hk
    unfold sizMend sizIntSS at hs
    omega
  have hwn : m.wrote.length ≤ 1048576 := by unfold sizMend sizIntSS at hs; omega
  have T1 : Hid (¬ mnP ds cop m → forg9M ds cop m node = (zeroMn, false)) := forg9M_bad
  have T3 : Hid (mnP ds cop m → forg9M ds cop m node = (forg9W m node, true)) := forg9M_yes
  have HPt := dHide fun (lo hi : Nat) (u : Value) (W : World) (h : OwMend lo hi u m W) => h.parts
  have HMt := dHide fun (lo hi : Nat) (sv ev wv : Value) rs (W : World) (h : OwM lo hi sv ev wv rs m.sealed m.seen W) (e : rs.map Nst.m = (forg9W m node).wrote) => OwM.mend (m := forg9W m node) h e
  have EW : Hid ((forg9W m node).wrote = m.wrote.map fun l => lessL l [node]) := rfl
  generalize forg9M ds cop m node = TM at *
  generalize mnP ds cop m = PM at *
  change Hid (∀ (lo hi : Nat) (sv ev wv : Value) (rs : List (Nst (List Int))) (W : World), OwM lo hi sv ev wv rs m.sealed m.seen W → rs.map Nst.m = (forg9W m node).wrote → OwMend lo hi (.agg #[.int .i64 m.bye, .int .i64 m.epoch, sv, ev, .bool m.planned, wv]) (forg9W m node) W) at HMt
  generalize m.bye = f0 at *
  generalize m.epoch = f1 at *
  generalize m.planned = f4 at *
  generalize m.sealed = ss at *
  generalize m.seen = es at *
  generalize m.wrote = ws at *
  clear hc hv hf hs
  have M0 := (Bx.new (w.alloc (.cells #[.slice ca ds.length cc, .int .i64 cop] 26)) [.int .i64 f0, .int .i64 f1, .slice sa ss.length sc, .slice ea es.length ec, .bool f4, .slice wa ws.length wz] 47).below (ba _ (.cells #[.int .i64 0, .int .i64 0, .slice none 0 0, .slice none 0 0, .bool false, .slice none 0 0] 47))
  have R0 := BxZ.new (B := w.heap.size) ((w.alloc (.cells #[.slice ca ds.length cc, .int .i64 cop] 26)).alloc (.cells #[.int .i64 f0, .int .i64 f1, .slice sa ss.length sc, .slice ea es.length ec, .bool f4, .slice wa ws.length wz] 47)) [.int .i64 0, .int .i64 0, .slice none 0 0, .slice none 0 0, .bool false, .slice none 0 0] 47 (by simp; omega)
  rw [show (w.alloc (.cells #[.slice ca ds.length cc, .int .i64 cop] 26)).heap.size = w.heap.size + 1 from by simp] at M0
  rw [show ((w.alloc (.cells #[.slice ca ds.length cc, .int .i64 cop] 26)).alloc (.cells #[.int .i64 f0, .int .i64 f1, .slice sa ss.length sc, .slice ea es.length ec, .bool f4, .slice wa ws.length wz] 47)).heap.size = w.heap.size + 1 + 1 from by simp] at R0
  have B0 := belowThen (belowThen (ba w (.cells #[.slice ca ds.length cc, .int .i64 cop] 26)) (ba _ (.cells #[.int .i64 f0, .int .i64 f1, .slice sa ss.length sc, .slice ea es.length ec, .bool f4, .slice wa ws.length wz] 47))) (ba _ (.cells #[.int .i64 0, .int .i64 0, .slice none 0 0, .slice none 0 0, .bool false, .slice none 0 0] 47))
  go_enter Try.func50, Try.ntmps50
  go_wp2_with fail
  generalize (((w.alloc (.cells #[.slice ca ds.length cc, .int .i64 cop] 26)).alloc (.cells #[.int .i64 f0, .int .i64 f1, .slice sa ss.length sc, .slice ea es.length ec, .bool f4, .slice wa ws.length wz] 47)).alloc (.cells #[.int .i64 0, .int .i64 0, .slice none 0 0, .slice none 0 0, .bool false, .slice none 0 0] 47)) = w0 at *
  have HM := dHide fun W (hb : Below w0.heap.size w0 W) => M0.below hb
  have HR := dHide fun W (hb : Below w0.heap.size w0 W) => R0.below hb
  have hr0 : w.heap.size + 1 + 1 < w0.heap.size := R0.lt
  clear M0 R0
  refine (dUnhide CM _ B0).mono ?_
  rintro e w1 ⟨⟨b1, rfl, h1⟩, bl1⟩
  cases b1
  · have e0 := dUnhide T1 (fun h => by have := h1.2 h; cases this)
    subst e0
    have RB := dUnhide HR _ bl1
    have BB := belowThen B0 bl1
    clear h1 CM CP HM HR T1 T3 HPt HMt EW
    have hVz : w1.heap.size = ((((((w1.setCell ⟨w.heap.size + 1 + 1, 0, none⟩ (.int .i64 0)).setCell ⟨w.heap.size + 1 + 1, 1, none⟩ (.int .i64 0)).setCell ⟨w.heap.size + 1 + 1, 2, none⟩ (.slice none 0 0)).setCell ⟨w.heap.size + 1 + 1, 3, none⟩ (.slice none 0 0)).setCell ⟨w.heap.size + 1 + 1, 4, none⟩ (.bool false)).setCell ⟨w.heap.size + 1 + 1, 5, none⟩ (.slice none 0 0)).heap.size := by simp
    obtain ⟨z0, g0⟩ := RB.2 0 _ rfl
    obtain ⟨z1, g1⟩ := RB.2 1 _ rfl
    obtain ⟨z2, g2⟩ := RB.2 2 _ rfl
    obtain ⟨z3, g3⟩ := RB.2 3 _ rfl
    obtain ⟨z4, g4⟩ := RB.2 4 _ rfl
    obtain ⟨z5, g5⟩ := RB.2 5 _ rfl
    have YY := dHide ((((((RB.put 0 (.int .i64 0)).put 1 (.int .i64 0)).put 2 (.slice none 0 0)).put 3 (.slice none 0 0)).put 4 (.bool false)).put 5 (.slice none 0 0))
    have BF := dHide ((((((BB.setCell (p := ⟨w.heap.size + 1 + 1, 0, none⟩) (by simp only; omega) (.int .i64 0)).setCell (p := ⟨w.heap.size + 1 + 1, 1, none⟩) (by simp only; omega) (.int .i64 0)).setCell (p := ⟨w.heap.size + 1 + 1, 2, none⟩) (by simp only; omega) (.slice none 0 0)).setCell (p := ⟨w.heap.size + 1 + 1, 3, none⟩) (by simp only; omega) (.slice none 0 0)).setCell (p := ⟨w.heap.size + 1 + 1, 4, none⟩) (by simp only; omega) (.bool false)).setCell (p := ⟨w.heap.size + 1 + 1, 5, none⟩) (by simp only; omega) (.slice none 0 0))
    clear RB BB
    go_wp2_with fail
    generalize ((((((w1.setCell ⟨w.heap.size + 1 + 1, 0, none⟩ (.int .i64 0)).setCell ⟨w.heap.size + 1 + 1, 1, none⟩ (.int .i64 0)).setCell ⟨w.heap.size + 1 + 1, 2, none⟩ (.slice none 0 0)).setCell ⟨w.heap.size + 1 + 1, 3, none⟩ (.slice none 0 0)).setCell ⟨w.heap.size + 1 + 1, 4, none⟩ (.bool false)).setCell ⟨w.heap.size + 1 + 1, 5, none⟩ (.slice none 0 0)) = V at *
    have q0 := ((dUnhide YY).2 0 _ rfl).1
    have q1 := ((dUnhide YY).2 1 _ rfl).1
    have q2 := ((dUnhide YY).2 2 _ rfl).1
    have q3 := ((dUnhide YY).2 3 _ rfl).1
    have q4 := ((dUnhide YY).2 4 _ rfl).1
    have q5 := ((dUnhide YY).2 5 _ rfl).1
    refine bodyPost_ret (v := .tuple #[.agg #[.int .i64 0, .int .i64 0, .slice none 0 0, .slice none 0 0, .bool false, .slice none 0 0], .bool false]) (by simp [results, Try.results50, go_sem, q0, q1, q2, q3, q4, q5]) rfl ⟨⟨_, rfl, OwMend.zero _ _ _⟩, dUnhide BF⟩
  have e0 := dUnhide T3 (h1.1 rfl)
  subst e0
  clear h1 CM T1 T3
  have y0 := dUnhide HM _ bl1 0 _ rfl
  have y1 := dUnhide HM _ bl1 1 _ rfl
  have y2 := dUnhide HM _ bl1 2 _ rfl
  have y3 := dUnhide HM _ bl1 3 _ rfl
  have y4 := dUnhide HM _ bl1 4 _ rfl
  have y5 := dUnhide HM _ bl1 5 _ rfl
  go_wp2_with fail
  refine (dUnhide CP _ (belowThen B0 bl1)).mono ?_
  rintro e w2 ⟨⟨u, rfl, OU⟩, b2⟩
  obtain ⟨ua, uc, va, vc, oa, oc, r0, rfl, hrs, MO⟩ := dUnhide HPt _ _ _ _ OU
  have hs1 := bl1.size
  have hs2 := b2.size
  have hsB := B0.size
  have bO := ba w2 (.cells #[.int .i64 f0, .int .i64 f1, .slice ua ss.length uc, .slice va es.length vc, .bool f4, .slice oa ws.length oc] 47)
  have OB := dHide (BxZ.new (B := w.heap.size) w2 [.int .i64 f0, .int .i64 f1, .slice ua ss.length uc, .slice va es.length vc, .bool f4, .slice oa ws.length oc] 47 (by omega))
  have hs3 : w2.heap.size < (w2.alloc (.cells #[.int .i64 f0, .int .i64 f1, .slice ua ss.length uc, .slice va es.length vc, .bool f4, .slice oa ws.length oc] 47)).heap.size := by simp
  have M3 := dHide ((MO.below bO).wide (Nat.le_refl _) (Nat.le_of_lt hs3))
  have F3 := dHide (Forg9.start (x := node) hrs)
  have GB : Hid (ws.length = 0 ∨ blockOf (.slice oa ws.length oc) < w2.heap.size) := by
    rcases MO.2.2.1.2.1 with q | q
    · subst q
      left
      rw [← hrs]
      rfl
    · exact .inr q
  have GL : Hid (ws.length = 0 ∨ w1.heap.size ≤ blockOf (.slice oa ws.length oc)) := by
    rcases MO.2.2.1.1.geG with q | q
    · subst q
      left
      rw [← hrs]
      rfl
    · exact .inr q
  have hb3 := belowThen bl1 (belowThen b2 bO)
  have B3 := belowThen B0 hb3
  have R3 := dHide (dUnhide HR _ hb3)
  have hw1 : w.heap.size + 1 + 1 < w1.heap.size := by omega
  clear y0 y1 y2 y3 y4 y5 OU CP MO HM HR HPt hb3 b2 bl1 B0 bO
  go_wp2_with fail
  generalize hob : w2.heap.size = ob at *
  generalize w2.alloc (.cells #[.int .i64 f0, .int .i64 f1, .slice ua ss.length uc, .slice va es.length vc, .bool f4, .slice oa ws.length oc] 47) = w3 at *
  go_loopw [9] (fun y wr => ∃ (k : Nat) (rs : List (Nst (List Int))), y = .int .i64 (k : Int) ∧ k ≤ ws.length ∧ Hid (OwM w1.heap.size wr.heap.size (.slice ua ss.length uc) (.slice va es.length vc) (.slice oa ws.length oc) rs ss es wr) ∧ Hid (Forg9 node ws k rs) ∧ Hid (BxZ wr w.heap.size ob [.int .i64 f0, .int .i64 f1, .slice ua ss.length uc, .slice va es.length vc, .bool f4, .slice oa ws.length oc]) ∧ Hid (BxZ wr w.heap.size (w.heap.size + 1 + 1) [.int .i64 0, .int .i64 0, .slice none 0 0, .slice none 0 0, .bool false, .slice none 0 0]) ∧ ob < wr.heap.size ∧ Below w.heap.size w wr) (fun y _ => ws.length - (intOf y).toNat)
  case atStart => exact ⟨0, r0, rfl, Nat.zero_le _, M3, F3, OB, R3, hs3, B3⟩
  case round =>
    obtain ⟨k, rs, rfl, hk, hM, hF, hO, hZ, hbv, hb⟩ := hrel
    clear M3 F3 OB R3 B3 hs3 hrs
    have o5 := ((dUnhide hO).2 5 _ rfl).1
    have hrl := (dUnhide hF).1
    by_cases hlt : (k : Int) < (ws.length : Int)
    · have hkl : k < rs.length := by omega
      obtain ⟨g, o, rfl, c1, fz1, n1⟩ := (dUnhide hM).cell hkl
      have hgo : g < ob := (dUnhide GB).resolve_left (by omega)
      have hg1 : w1.heap.size ≤ g := (dUnhide GL).resolve_left (by omega)
      have hlk : rs[k].m.length ≤ 1048576 := by
        have := ((dUnhide hF).2 k hkl (by omega)).2 (Nat.le_refl _)
        rw [this]
        exact dUnhide hwl k (by omega)
      have NZ : Hid (∀ W, Below wr.heap.size wr W → (W.cell? ⟨g, o + k, none⟩ = some (.slice rs[k].a rs[k].m.length rs[k].c) ∧ W.frozen? ⟨g, o + k, none⟩ = false) ∧ W.cell? ⟨ob, 5, none⟩ = some (.slice (some ⟨g, o, none⟩) ws.length oc)) := fun W hB => ⟨⟨(hB.cell (p := ⟨g, o + k, none⟩) (dCell_lt c1)).trans c1, (hB.frozen (p := ⟨g, o + k, none⟩) (dCell_lt c1)).trans fz1⟩, (hB.cell (p := ⟨ob, 5, none⟩) (dCell_lt o5)).trans o5⟩
      have ST : Hid (∀ (w5 : World) (qa : Option Addr) (qc : Nat), Below wr.heap.size wr w5 → OwnN w5 wr.heap.size (.slice qa (lessL rs[k].m [node]).length qc) (lessL rs[k].m [node]) → ∃ rs', OwM w1.heap.size (w5.setCell ⟨g, o + k, none⟩ (.slice qa (lessL rs[k].m [node]).length qc)).heap.size (.slice ua ss.length uc) (.slice va es.length vc) (.slice (some ⟨g, o, none⟩) ws.length oc) rs' ss es (w5.setCell ⟨g, o + k, none⟩ (.slice qa (lessL rs[k].m [node]).length qc)) ∧ Forg9 node ws (k + 1) rs') := fun w5 qa qc hB hO => by
        have U := ((dUnhide hM).below hB).toldNew (p := ⟨qa, qc, lessL rs[k].m [node]⟩) hkl (B := wr.heap.size) (Nat.le_refl _) hB.size (by omega) hO
        rw [World.size_setCell]
        exact ⟨_, U, (dUnhide hF).step hkl _ rfl⟩
      have bA := belowThen (show Below wr.heap.size wr wr.drew from (Below.refl _ _).drew) (ba _ (.cells #[.int .i64 node] 3))
      have ON : Ns (wr.drew.alloc (.cells #[.int .i64 node] 3)) (.slice (some ⟨wr.heap.size, 0, none⟩) 1 1) [node] := by
        refine ⟨by simp, _, _, rfl, by simp, .inr ⟨wr.heap.size, 0, rfl, fun i hi => ?_⟩⟩
        obtain rfl : i = 0 := by simp at hi; omega
        exact Bx.new wr.drew [.int .i64 node] 3 0 _ rfl
      have CL := dHide (l4Less_any _ _ rs[k].m [node] _ (n1.below bA) ON (by omega))
      have pb := o5
      generalize rs[k] = y at *
      obtain ⟨ya, yc, yn⟩ := y
      simp only at *
      generalize lessL yn [node] = ln at *
      clear hM hF n1 ON
      go_wp2_with fail
      refine wp_region_noPanic ?_
      refine wp_region_held_drew (S := fun W => W.cell? ⟨ob, 5, none⟩ = some (.slice (some ⟨g, o, none⟩) ws.length oc)) (by kernel_rfl) (by first | exact pb | exact (dUnhide NZ _ bA).2 | exact p5 | exact set_other p5 (.inl (by omega)) | go_keep) (fun hHeld => ?_)
      refine wpAnyH_take (i := 0) (oi := { dst := some 24, op := Op.fieldAddr 47 (Operand.tmp 8) 5, type := 0, pos := "l09_mend.go:110", after := #[], guard := none }) (v := ?_) rfl (by kernel_rfl) (by kernel_rfl) (by kernel_rfl) (fun _ _ _ h => h) (Or.inl ⟨by rfl, ?_⟩) (by assumption) ?_
      rotate_left 1
      · intro w hSw
        (try dsimp only at hSw)
        first | (go_simp; done) | (go_simp; with_reducible rfl)
      try simp only [Act.put, List.setIfInBounds_toArray, List.set_cons_zero, List.set_cons_succ]
      refine wpAnyH_take (i := 1) (oi := { dst := some 25, op := Op.load 45 (Operand.tmp 24), type := 45, pos := "l09_mend.go:110", after := #[{ on := 0, ground := Ground.data }], guard := none }) (v := ?_) rfl (by kernel_rfl) (by kernel_rfl) (by kernel_rfl) (fun _ _ _ h => h) (Or.inl ⟨by rfl, ?_⟩) (by assumption) ?_
      rotate_left 1
      · intro w hSw
        (try dsimp only at hSw)
        first | (go_simp; done) | (go_simp; with_reducible rfl)
      try simp only [Act.put, List.setIfInBounds_toArray, List.set_cons_zero, List.set_cons_succ]
      refine wpAnyH_take (i := 2) (oi := { dst := some 26, op := Op.move (Operand.tmp 9), type := 3, pos := "l09_mend.go:110", after := #[], guard := none }) (v := ?_) rfl (by kernel_rfl) (by kernel_rfl) (by kernel_rfl) (fun _ _ _ h => h) (Or.inl ⟨by rfl, ?_⟩) (by assumption) ?_
      rotate_left 1
      · intro w hSw
        (try dsimp only at hSw)
        first | (go_simp; done) | (go_simp; with_reducible rfl)
      try simp only [Act.put, List.setIfInBounds_toArray, List.set_cons_zero, List.set_cons_succ]
      refine wpAnyH_take (i := 3) (oi := { dst := some 27, op := Op.fieldAddr 47 (Operand.tmp 8) 5, type := 0, pos := "l09_mend.go:110", after := #[], guard := none }) (v := ?_) rfl (by kernel_rfl) (by kernel_rfl) (by kernel_rfl) (fun _ _ _ h => h) (Or.inl ⟨by rfl, ?_⟩) (by assumption) ?_
      rotate_left 1
      · intro w hSw
        (try dsimp only at hSw)
        first | (go_simp; done) | (go_simp; with_reducible rfl)
      try simp only [Act.put, List.setIfInBounds_toArray, List.set_cons_zero, List.set_cons_succ]
      refine wpAnyH_take (i := 4) (oi := { dst := some 28, op := Op.load 45 (Operand.tmp 27), type := 45, pos := "l09_mend.go:110", after := #[{ on := 3, ground := Ground.data }], guard := none }) (v := ?_) rfl (by kernel_rfl) (by kernel_rfl) (by kernel_rfl) (fun _ _ _ h => h) (Or.inl ⟨by rfl, ?_⟩) (by assumption) ?_
      rotate_left 1
      · intro w hSw
        (try dsimp only at hSw)
        first | (go_simp; done) | (go_simp; with_reducible rfl)
      try simp only [Act.put, List.setIfInBounds_toArray, List.set_cons_zero, List.set_cons_succ]
      refine wpAnyH_take (i := 5) (oi := { dst := some 29, op := Op.move (Operand.tmp 9), type := 3, pos := "l09_mend.go:110", after := #[], guard := none }) (v := ?_) rfl (by kernel_rfl) (by kernel_rfl) (by kernel_rfl) (fun _ _ _ h => h) (Or.inl ⟨by rfl, ?_⟩) (by assumption) ?_
      rotate_left 1
      · intro w hSw
        (try dsimp only at hSw)
        first | (go_simp; done) | (go_simp; with_reducible rfl)
      try simp only [Act.put, List.setIfInBounds_toArray, List.set_cons_zero, List.set_cons_succ]
      refine wpAnyH_take (i := 6) (oi := { dst := some 30, op := Op.indexAddr 45 (Operand.tmp 28) (Operand.tmp 29), type := 0, pos := "l09_mend.go:110", after := #[{ on := 4, ground := Ground.data }, { on := 5, ground := Ground.data }], guard := none }) (v := ?_) rfl (by kernel_rfl) (by kernel_rfl) (by kernel_rfl) (fun _ _ _ h => h) (Or.inl ⟨by rfl, ?_⟩) (by assumption) ?_
      rotate_left 1
      · intro w hSw
        (try dsimp only at hSw)
        first | (go_simp; done) | (go_simp; with_reducible rfl)
      try simp only [Act.put, List.setIfInBounds_toArray, List.set_cons_zero, List.set_cons_succ]
      refine wpAnyH_take (i := 8) (oi := { dst := some 32, op := Op.move (Operand.tmp 2), type := 3, pos := "l09_mend.go:110", after := #[], guard := none }) (v := ?_) rfl (by kernel_rfl) (by kernel_rfl) (by kernel_rfl) (fun _ _ _ h => h) (Or.inl ⟨by rfl, ?_⟩) (by assumption) ?_
      rotate_left 1
      · intro w hSw
        (try dsimp only at hSw)
        first | (go_simp; done) | (go_simp; with_reducible rfl)
      try simp only [Act.put, List.setIfInBounds_toArray, List.set_cons_zero, List.set_cons_succ]
      refine wpAnyH_ready (rs := [7, 9]) (by kernel_rfl) (by simp) ?_
      refine AllReadyH.cons (o := { dst := some 31, op := Op.load 24 (Operand.tmp 30), type := 24, pos := "l09_mend.go:110", after := #[{ on := 6, ground := Ground.data }], guard := none }) rfl (fun K hK => ?_) (AllReadyH.cons (o := { dst := some 33, op := Op.buildSlice 24 1 #[(0, Operand.tmp 32)], type := 24, pos := "l09_mend.go:110", after := #[{ on := 8, ground := Ground.data }], guard := none }) rfl (fun K hK => ?_) AllReadyH.nil)
      · go_simp
        refine hK.out _ _ (by first | exact pb | exact (dUnhide NZ _ bA).2 | exact p5 | exact set_other p5 (.inl (by omega)) | go_keep) (fun hHeld => ?_)
        clear hK K
        try simp only [Act.put, List.setIfInBounds_toArray, List.set_cons_zero, List.set_cons_succ]
        refine wpAnyH_ready (rs := [9]) (by kernel_rfl) (by simp) ?_
        refine AllReadyH.cons (o := { dst := some 33, op := Op.buildSlice 24 1 #[(0, Operand.tmp 32)], type := 24, pos := "l09_mend.go:110", after := #[{ on := 8, ground := Ground.data }], guard := none }) rfl (fun K hK => ?_) AllReadyH.nil
        go_simp
        have nz := (dUnhide NZ _ bA).1
        have nz2 := (dUnhide NZ _ (ba wr (.cells #[.int .i64 node] 3))).1.1
        refine hK.out _ _ (by first | exact pb | exact (dUnhide NZ _ bA).2 | exact p5 | exact set_other p5 (.inl (by omega)) | go_keep) (fun hHeld => ?_)
        clear hK K
        try simp only [Act.put, List.setIfInBounds_toArray, List.set_cons_zero, List.set_cons_succ]
        refine wpAnyH_ready (rs := [10]) (by kernel_rfl) (by simp) ?_
        refine AllReadyH.cons (o := { dst := some 34, op := Op.call { callee := Callee.value (Operand.func 105), args := #[Operand.tmp 31, Operand.tmp 33], argTypes := #[24, 24] }, type := 24, pos := "l09_mend.go:110", after := #[{ on := 7, ground := Ground.data }, { on := 9, ground := Ground.data }], guard := none }) rfl (fun K hK => ?_) AllReadyH.nil
        go_simp
        refine (dUnhide CL).mono ?_
        rintro e w5 ⟨⟨u5, rfl, R5⟩, b5⟩
        have O5 := ownN_of_row R5
        obtain ⟨-, qa, qc, rfl, -, -⟩ := O5.bs
        have hb5 : Below wr.heap.size wr w5 := belowThen bA b5
        have sz5 := hb5.size
        obtain ⟨rs', S5, F5⟩ := dUnhide ST w5 qa qc hb5 (O5.mono (by simp))
        obtain ⟨⟨c5, f5⟩, p5⟩ := dUnhide NZ w5 hb5
        have HS5 := dHide S5
        have HF5 := dHide F5
        have OB5 := dHide ((dUnhide hO).below hb5)
        have ZB5 := dHide ((dUnhide hZ).below hb5)
        have BB5 := dHide (belowThen hb hb5)
        clear S5 F5 R5 O5 b5
        (try go_wp2_with fail)
        refine hK.out _ _ (by first | exact pb | exact (dUnhide NZ _ bA).2 | exact p5 | exact set_other p5 (.inl (by omega)) | go_keep) (fun hHeld => ?_)
        clear hK K
        try simp only [Act.put, List.setIfInBounds_toArray, List.set_cons_zero, List.set_cons_succ]
        refine wpAnyH_take (i := 11) (oi := { dst := some 35, op := Op.indexAddr 45 (Operand.tmp 25) (Operand.tmp 26), type := 0, pos := "l09_mend.go:110", after := #[{ on := 1, ground := Ground.data }, { on := 2, ground := Ground.data }, { on := 0, ground := Ground.phase }, { on := 1, ground := Ground.phase }, { on := 2, ground := Ground.phase }, { on := 3, ground := Ground.phase }, { on := 4, ground := Ground.phase }, { on := 5, ground := Ground.phase }, { on := 6, ground := Ground.phase }, { on := 7, ground := Ground.phase }, { on := 8, ground := Ground.phase }, { on := 9, ground := Ground.phase }, { on := 10, ground := Ground.phase }], guard := none }) (v := ?_) rfl (by kernel_rfl) (by kernel_rfl) (by kernel_rfl) (fun _ _ _ h => h) (Or.inl ⟨by rfl, ?_⟩) (by assumption) ?_
        rotate_left 1
        · intro w hSw
          (try dsimp only at hSw)
          first | (go_simp; done) | (go_simp; with_reducible rfl)
        try simp only [Act.put, List.setIfInBounds_toArray, List.set_cons_zero, List.set_cons_succ]
        refine wpAnyH_ready (rs := [12]) (by kernel_rfl) (by simp) ?_
        refine AllReadyH.cons (o := { dst := none, op := Op.store 24 (Operand.tmp 35) (Operand.tmp 34), type := 0, pos := "l09_mend.go:110", after := #[{ on := 11, ground := Ground.data }, { on := 10, ground := Ground.data }, { on := 10, ground := Ground.chain }, { on := 0, ground := Ground.phase }, { on := 1, ground := Ground.phase }, { on := 2, ground := Ground.phase }, { on := 3, ground := Ground.phase }, { on := 4, ground := Ground.phase }, { on := 5, ground := Ground.phase }, { on := 6, ground := Ground.phase }, { on := 7, ground := Ground.phase }, { on := 8, ground := Ground.phase }, { on := 9, ground := Ground.phase }, { on := 10, ground := Ground.phase }], guard := none }) rfl (fun K hK => ?_) AllReadyH.nil
        go_simp
        refine hK.out _ _ (by first | exact pb | exact (dUnhide NZ _ bA).2 | exact p5 | exact set_other p5 (.inl (by omega)) | go_keep) (fun hHeld => ?_)
        clear hK K
        try simp only [Act.put, List.setIfInBounds_toArray, List.set_cons_zero, List.set_cons_succ]
        refine wpAnyH_done (by kernel_rfl) ?_ _
        refine NoPanic.normal ?_
        go_wp2_with fail
        go_roundw
        case rel => exact ⟨k + 1, rs', by go_num, by omega, HS5, HF5, (dUnhide OB5).far (by omega) _, (dUnhide ZB5).far (by omega) _, by rw [World.size_setCell]; omega, (dUnhide BB5).setCell (p := ⟨g, o + k, none⟩) (by simp only; omega) _⟩
        case measure => simp [intOf]; omega
      · go_simp
        have nz := (dUnhide NZ _ bA).1
        have nz2 := (dUnhide NZ _ (ba wr (.cells #[.int .i64 node] 3))).1.1
        refine hK.out _ _ (by first | exact pb | exact (dUnhide NZ _ bA).2 | exact p5 | exact set_other p5 (.inl (by omega)) | go_keep) (fun hHeld => ?_)
        clear hK K
        try simp only [Act.put, List.setIfInBounds_toArray, List.set_cons_zero, List.set_cons_succ]
        refine wpAnyH_ready (rs := [7]) (by kernel_rfl) (by simp) ?_
        refine AllReadyH.cons (o := { dst := some 31, op := Op.load 24 (Operand.tmp 30), type := 24, pos := "l09_mend.go:110", after := #[{ on := 6, ground := Ground.data }], guard := none }) rfl (fun K hK => ?_) AllReadyH.nil
        go_simp
        refine hK.out _ _ (by first | exact pb | exact (dUnhide NZ _ bA).2 | exact p5 | exact set_other p5 (.inl (by omega)) | go_keep) (fun hHeld => ?_)
        clear hK K
        try simp only [Act.put, List.setIfInBounds_toArray, List.set_cons_zero, List.set_cons_succ]
        refine wpAnyH_ready (rs := [10]) (by kernel_rfl) (by simp) ?_
        refine AllReadyH.cons (o := { dst := some 34, op := Op.call { callee := Callee.value (Operand.func 105), args := #[Operand.tmp 31, Operand.tmp 33], argTypes := #[24, 24] }, type := 24, pos := "l09_mend.go:110", after := #[{ on := 7, ground := Ground.data }, { on := 9, ground := Ground.data }], guard := none }) rfl (fun K hK => ?_) AllReadyH.nil
        go_simp
        refine (dUnhide CL).mono ?_
        rintro e w5 ⟨⟨u5, rfl, R5⟩, b5⟩
        have O5 := ownN_of_row R5
        obtain ⟨-, qa, qc, rfl, -, -⟩ := O5.bs
        have hb5 : Below wr.heap.size wr w5 := belowThen bA b5
        have sz5 := hb5.size
        obtain ⟨rs', S5, F5⟩ := dUnhide ST w5 qa qc hb5 (O5.mono (by simp))
        obtain ⟨⟨c5, f5⟩, p5⟩ := dUnhide NZ w5 hb5
        have HS5 := dHide S5
        have HF5 := dHide F5
        have OB5 := dHide ((dUnhide hO).below hb5)
        have ZB5 := dHide ((dUnhide hZ).below hb5)
        have BB5 := dHide (belowThen hb hb5)
        clear S5 F5 R5 O5 b5
        (try go_wp2_with fail)
        refine hK.out _ _ (by first | exact pb | exact (dUnhide NZ _ bA).2 | exact p5 | exact set_other p5 (.inl (by omega)) | go_keep) (fun hHeld => ?_)
        clear hK K
        try simp only [Act.put, List.setIfInBounds_toArray, List.set_cons_zero, List.set_cons_succ]
        refine wpAnyH_take (i := 11) (oi := { dst := some 35, op := Op.indexAddr 45 (Operand.tmp 25) (Operand.tmp 26), type := 0, pos := "l09_mend.go:110", after := #[{ on := 1, ground := Ground.data }, { on := 2, ground := Ground.data }, { on := 0, ground := Ground.phase }, { on := 1, ground := Ground.phase }, { on := 2, ground := Ground.phase }, { on := 3, ground := Ground.phase }, { on := 4, ground := Ground.phase }, { on := 5, ground := Ground.phase }, { on := 6, ground := Ground.phase }, { on := 7, ground := Ground.phase }, { on := 8, ground := Ground.phase }, { on := 9, ground := Ground.phase }, { on := 10, ground := Ground.phase }], guard := none }) (v := ?_) rfl (by kernel_rfl) (by kernel_rfl) (by kernel_rfl) (fun _ _ _ h => h) (Or.inl ⟨by rfl, ?_⟩) (by assumption) ?_
        rotate_left 1
        · intro w hSw
          (try dsimp only at hSw)
          first | (go_simp; done) | (go_simp; with_reducible rfl)
        try simp only [Act.put, List.setIfInBounds_toArray, List.set_cons_zero, List.set_cons_succ]
        refine wpAnyH_ready (rs := [12]) (by kernel_rfl) (by simp) ?_
        refine AllReadyH.cons (o := { dst := none, op := Op.store 24 (Operand.tmp 35) (Operand.tmp 34), type := 0, pos := "l09_mend.go:110", after := #[{ on := 11, ground := Ground.data }, { on := 10, ground := Ground.data }, { on := 10, ground := Ground.chain }, { on := 0, ground := Ground.phase }, { on := 1, ground := Ground.phase }, { on := 2, ground := Ground.phase }, { on := 3, ground := Ground.phase }, { on := 4, ground := Ground.phase }, { on := 5, ground := Ground.phase }, { on := 6, ground := Ground.phase }, { on := 7, ground := Ground.phase }, { on := 8, ground := Ground.phase }, { on := 9, ground := Ground.phase }, { on := 10, ground := Ground.phase }], guard := none }) rfl (fun K hK => ?_) AllReadyH.nil
        go_simp
        refine hK.out _ _ (by first | exact pb | exact (dUnhide NZ _ bA).2 | exact p5 | exact set_other p5 (.inl (by omega)) | go_keep) (fun hHeld => ?_)
        clear hK K
        try simp only [Act.put, List.setIfInBounds_toArray, List.set_cons_zero, List.set_cons_succ]
        refine wpAnyH_done (by kernel_rfl) ?_ _
        refine NoPanic.normal ?_
        go_wp2_with fail
        go_roundw
        case rel => exact ⟨k + 1, rs', by go_num, by omega, HS5, HF5, (dUnhide OB5).far (by omega) _, (dUnhide ZB5).far (by omega) _, by rw [World.size_setCell]; omega, (dUnhide BB5).setCell (p := ⟨g, o + k, none⟩) (by simp only; omega) _⟩
        case measure => simp [intOf]; omega
    · have ek : k = ws.length := by omega
      subst ek
      have G9 : Hid (rs.map Nst.m = (forg9W m node).wrote) := by
        show _ = _
        rw [dUnhide EW]
        exact (dUnhide hF).fin
      have RB := dUnhide hZ
      have BB := hb
      have MK := dUnhide hM
      have o0 := ((dUnhide hO).2 0 _ rfl).1
      have o1 := ((dUnhide hO).2 1 _ rfl).1
      have o2 := ((dUnhide hO).2 2 _ rfl).1
      have o3 := ((dUnhide hO).2 3 _ rfl).1
      have o4 := ((dUnhide hO).2 4 _ rfl).1
      clear hM hF hO hZ hwl
      have hVz : wr.heap.size = ((((((wr.setCell ⟨w.heap.size + 1 + 1, 0, none⟩ (.int .i64 f0)).setCell ⟨w.heap.size + 1 + 1, 1, none⟩ (.int .i64 f1)).setCell ⟨w.heap.size + 1 + 1, 2, none⟩ (.slice ua ss.length uc)).setCell ⟨w.heap.size + 1 + 1, 3, none⟩ (.slice va es.length vc)).setCell ⟨w.heap.size + 1 + 1, 4, none⟩ (.bool f4)).setCell ⟨w.heap.size + 1 + 1, 5, none⟩ (.slice oa ws.length oc)).heap.size := by simp
      obtain ⟨z0, g0⟩ := RB.2 0 _ rfl
      obtain ⟨z1, g1⟩ := RB.2 1 _ rfl
      obtain ⟨z2, g2⟩ := RB.2 2 _ rfl
      obtain ⟨z3, g3⟩ := RB.2 3 _ rfl
      obtain ⟨z4, g4⟩ := RB.2 4 _ rfl
      obtain ⟨z5, g5⟩ := RB.2 5 _ rfl
      have YY := dHide ((((((RB.put 0 (.int .i64 f0)).put 1 (.int .i64 f1)).put 2 (.slice ua ss.length uc)).put 3 (.slice va es.length vc)).put 4 (.bool f4)).put 5 (.slice oa ws.length oc))
      have BF := dHide ((((((BB.setCell (p := ⟨w.heap.size + 1 + 1, 0, none⟩) (by simp only; omega) (.int .i64 f0)).setCell (p := ⟨w.heap.size + 1 + 1, 1, none⟩) (by simp only; omega) (.int .i64 f1)).setCell (p := ⟨w.heap.size + 1 + 1, 2, none⟩) (by simp only; omega) (.slice ua ss.length uc)).setCell (p := ⟨w.heap.size + 1 + 1, 3, none⟩) (by simp only; omega) (.slice va es.length vc)).setCell (p := ⟨w.heap.size + 1 + 1, 4, none⟩) (by simp only; omega) (.bool f4)).setCell (p := ⟨w.heap.size + 1 + 1, 5, none⟩) (by simp only; omega) (.slice oa ws.length oc))
      have MF := dHide ((((((MK.far (b := w.heap.size + 1 + 1) (o := 0) (.inl (by omega)) (.int .i64 f0)).far (b := w.heap.size + 1 + 1) (o := 1) (.inl (by omega)) (.int .i64 f1)).far (b := w.heap.size + 1 + 1) (o := 2) (.inl (by omega)) (.slice ua ss.length uc)).far (b := w.heap.size + 1 + 1) (o := 3) (.inl (by omega)) (.slice va es.length vc)).far (b := w.heap.size + 1 + 1) (o := 4) (.inl (by omega)) (.bool f4)).far (b := w.heap.size + 1 + 1) (o := 5) (.inl (by omega)) (.slice oa ws.length oc))
      clear RB BB
      go_wp2_with fail
      generalize ((((((wr.setCell ⟨w.heap.size + 1 + 1, 0, none⟩ (.int .i64 f0)).setCell ⟨w.heap.size + 1 + 1, 1, none⟩ (.int .i64 f1)).setCell ⟨w.heap.size + 1 + 1, 2, none⟩ (.slice ua ss.length uc)).setCell ⟨w.heap.size + 1 + 1, 3, none⟩ (.slice va es.length vc)).setCell ⟨w.heap.size + 1 + 1, 4, none⟩ (.bool f4)).setCell ⟨w.heap.size + 1 + 1, 5, none⟩ (.slice oa ws.length oc)) = V at *
      have q0 := ((dUnhide YY).2 0 _ rfl).1
      have q1 := ((dUnhide YY).2 1 _ rfl).1
      have q2 := ((dUnhide YY).2 2 _ rfl).1
      have q3 := ((dUnhide YY).2 3 _ rfl).1
      have q4 := ((dUnhide YY).2 4 _ rfl).1
      have q5 := ((dUnhide YY).2 5 _ rfl).1
      refine bodyPost_ret (v := .tuple #[.agg #[.int .i64 f0, .int .i64 f1, .slice ua ss.length uc, .slice va es.length vc, .bool f4, .slice oa ws.length oc], .bool true]) (by simp [results, Try.results50, go_sem, q0, q1, q2, q3, q4, q5]) rfl ⟨⟨_, rfl, dUnhide HMt _ _ _ _ _ _ V ((dUnhide MF).wide (by omega) (by omega)) (dUnhide G9)⟩, dUnhide BF⟩
end Go.Proofs.Ytjbfpmackocgnaa
