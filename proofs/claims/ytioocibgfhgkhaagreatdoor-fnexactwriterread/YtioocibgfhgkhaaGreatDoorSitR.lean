/- Eras and registers, as the exact laws handle them: measured, compared. -/
import Derived.Test.YtioocibgfhgkhaaGreatDoorRgA
import Derived.Test.YtioocibgfhgkhaaGreatDoorGaA
import Derived.Deep.RegionHeld3
import Derived.Deep.DeepCutAuto
namespace Go.Proofs.YtioocibgfhgkhaaGreatDoor
open Go.ChangeShapes Go.WideShapes Go.ChangeAt Go.RowKit
set_option linter.unusedVariables false
set_option linter.unusedSimpArgs false
set_option maxRecDepth 100000

set_option maxHeartbeats 2000000 in
theorem eqEra_yes (p q : Nst Er) (w : World) (hm : p.m = q.m) (h : Ns w (Sv Er.nodes p) p.m.nodes) (h' : Ns w (Sv Er.nodes q) q.m.nodes) :
    Calls Tryz.prog 54 #[.agg #[.slice p.a p.m.nodes.length p.c, .bool p.m.closed, .int .i64 p.m.last], .agg #[.slice q.a q.m.nodes.length q.c, .bool q.m.closed, .int .i64 q.m.last]] w fun r w' => r = .returned (.bool true) ∧ Below w.heap.size w w' := by
  obtain ⟨pa, pc, m⟩ := p
  obtain ⟨qa, qc, m'⟩ := q
  cases hm
  have hb0 : ∀ o o', Below w.heap.size w ((w.alloc o).alloc o') := fun o o' => ((Below.refl _ _).alloc (Nat.le_refl _) o).alloc (by simp) o'
  have C1 := dHide fun o o' => eqIntS_yes _ _ m.nodes ((w.alloc o).alloc o') (h.below (hb0 o o')) (h'.below (hb0 o o'))
  unfold Sv at C1
  clear h h'
  simp only at *
  obtain ⟨yn, yb, yl⟩ := m
  simp only at *
  have X0 := (Bx.new w [.slice pa yn.length pc, .bool yb, .int .i64 yl] 56).below ((Below.refl _ _).alloc (Nat.le_refl _) (.cells #[.slice qa yn.length qc, .bool yb, .int .i64 yl] 56))
  have Y0 := Bx.new (w.alloc (.cells #[.slice pa yn.length pc, .bool yb, .int .i64 yl] 56)) [.slice qa yn.length qc, .bool yb, .int .i64 yl] 56
  have e1 : (w.alloc (.cells #[.slice pa yn.length pc, .bool yb, .int .i64 yl] 56)).heap.size = w.heap.size + 1 := by simp
  rw [e1] at Y0
  clear e1
  go_enter Tryz.func54, Tryz.ntmps54
  go_wp2_with fail
  refine (dUnhide C1 _ _).mono ?_
  rintro e w1 ⟨rfl, b1⟩
  have B1 := belowThen (hb0 _ _) b1
  have X1 := X0.below b1
  have Y1 := Y0.below b1
  have k1 := X1 1 _ rfl
  have k2 := X1 2 _ rfl
  have j1 := Y1 1 _ rfl
  have j2 := Y1 2 _ rfl
  clear X0 Y0 b1 hb0 C1 X1 Y1
  go_wp2
  go_ret
  exact ⟨rfl, B1⟩
set_option maxHeartbeats 4000000 in
theorem eqEraS_ (u v : Value) (m : List Er) (w : World) (hu : RdEraS u m w) (hv : RdEraS v m w) :
    Calls Tryz.prog 30 #[u, v] w fun e w' => e = .returned (.bool true) ∧ Below w.heap.size w w' := by
  obtain ⟨rs, e1, hr, hn⟩ := hu
  obtain ⟨ss, e2, hs, hp⟩ := hv
  have el : rs.length = ss.length := by rw [← List.length_map (f := Nst.m), e1, ← e2, List.length_map]
  have em : Hid (∀ k (h : k < rs.length) (h' : k < ss.length), rs[k].m = ss[k].m) := fun k h h' => by
    have q1 : (rs.map Nst.m)[k]? = (ss.map Nst.m)[k]? := by rw [e1, e2]
    rw [List.getElem?_map, List.getElem?_map, List.getElem?_eq_getElem h, List.getElem?_eq_getElem h'] at q1
    simpa using q1
  have HU := dHide fun W (hb : Below w.heap.size w W) => hr.below hb
  have HV := dHide fun W (hb : Below w.heap.size w W) => hs.below hb
  have HN := dHide fun W (hb : Below w.heap.size w W) k (hk : k < rs.length) => (hn _ (List.getElem_mem hk)).below hb
  have HP := dHide fun W (hb : Below w.heap.size w W) k (hk : k < ss.length) => (hp _ (List.getElem_mem hk)).below hb
  obtain ⟨h0, a, cap, rfl, -, -⟩ := hr
  obtain ⟨h0', a', cap', rfl, -, -⟩ := hs
  rw [← el]
  have EL := dHide el
  clear hn hp e1 e2 el h0'
  go_enter Tryz.func30, Tryz.ntmps30
  go_wp2
  go_loopw [5] (fun i wr => ∃ k : Nat, i = .int .i64 (k : Int) ∧ k ≤ rs.length ∧ Below w.heap.size w wr) (fun i _ => rs.length - (intOf i).toNat)
  case atStart => exact ⟨0, rfl, Nat.zero_le _, Below.refl _ _⟩
  case round =>
    obtain ⟨k, rfl, hk, hb⟩ := hrel
    by_cases hlt : (k : Int) < (rs.length : Int)
    · have hkl : k < rs.length := by omega
      have hkl' : k < ss.length := by rw [← dUnhide EL]; exact hkl
      obtain ⟨b, off, rfl, hc⟩ := (dUnhide HU wr hb).era hkl
      obtain ⟨b', off', rfl, hc'⟩ := (dUnhide HV wr hb).era hkl'
      have E1 := dHide (hc k hkl)
      have E2 := dHide (hc' k hkl')
      obtain ⟨c0, c1, c2⟩ := hc k hkl
      obtain ⟨e0, e1, e2⟩ := hc' k hkl'
      have CE := dHide fun W (hB : Below wr.heap.size wr W) => eqEra_yes rs[k] ss[k] W (dUnhide em k hkl hkl') (dUnhide HN W (belowThen hb hB) k hkl) (dUnhide HP W (belowThen hb hB) k hkl')
      generalize rs[k] = y at *
      generalize ss[k] = y' at *
      obtain ⟨ya, yc, yn, yb, yl⟩ := y
      obtain ⟨za, zc, zn, zb, zl⟩ := y'
      unfold ErAt at E1 E2
      simp only at *
      clear hc hc' HU HV HN HP em
      have hbr : Below wr.heap.size wr wr.drew := (Below.refl _ _).drew
      go_wp2_with fail
      go_region_held3 (fun W => (W.cell? ⟨b, off + k * 3, none⟩ = some (.slice ya yn.length yc) ∧ W.cell? ⟨b, off + k * 3 + 1, none⟩ = some (.bool yb) ∧ W.cell? ⟨b, off + k * 3 + 2, none⟩ = some (.int .i64 yl)) ∧ W.cell? ⟨b', off' + k * 3, none⟩ = some (.slice za zn.length zc) ∧ W.cell? ⟨b', off' + k * 3 + 1, none⟩ = some (.bool zb) ∧ W.cell? ⟨b', off' + k * 3 + 2, none⟩ = some (.int .i64 zl)) (first | exact ⟨ErAt.below (p := ⟨ya, yc, yn, yb, yl⟩) (dUnhide E1) hb5, ErAt.below (p := ⟨za, zc, zn, zb, zl⟩) (dUnhide E2) hb5⟩ | go_keep)
        (first
          | (go_at_call 54; refine (dUnhide CE _ hbr).mono ?_; rintro r w5 ⟨rfl, b5⟩; have hb5 := belowThen hbr b5))
      all_goals
        go_wp2
        go_roundw
        case rel => exact ⟨k + 1, by go_num, by omega, belowThen hb hb5⟩
        case measure => simp [intOf]; omega
    · clear HU HV HN HP em
      go_wp2
      go_ret
      exact ⟨rfl, hb⟩
set_option maxHeartbeats 2000000 in
theorem eqRegister_ (u v : Value) (m : Rg) (w : World) (hu : RdRegister u m w) (hv : RdRegister v m w) :
    Calls Tryz.prog 10 #[u, v] w fun e w' => e = .returned (.bool true) ∧ Below w.heap.size w w' := by
  have hb0 : ∀ o o', Below w.heap.size w ((w.alloc o).alloc o') := fun o o' => ((Below.refl _ _).alloc (Nat.le_refl _) o).alloc (by simp) o'
  obtain ⟨su, rfl, hu⟩ := hu
  obtain ⟨sv, rfl, hv⟩ := hv
  have C1 := dHide fun W (hb : Below w.heap.size w W) => eqEraS_ su sv m.eras W (RdK.below hu hb) (RdK.below hv hb)
  obtain ⟨a, cap, rfl, -⟩ := formK hu
  obtain ⟨a', cap', rfl, -⟩ := formK hv
  generalize m.trim = sl at *
  have X0 := (Bx.new w [.slice a m.eras.length cap, .int .i64 sl] 29).below ((Below.refl _ _).alloc (Nat.le_refl _) (.cells #[.slice a' m.eras.length cap', .int .i64 sl] 29))
  have Y0 := Bx.new (w.alloc (.cells #[.slice a m.eras.length cap, .int .i64 sl] 29)) [.slice a' m.eras.length cap', .int .i64 sl] 29
  have e1 : (w.alloc (.cells #[.slice a m.eras.length cap, .int .i64 sl] 29)).heap.size = w.heap.size + 1 := by simp
  rw [e1] at Y0
  clear e1 hu hv
  go_enter Tryz.func10, Tryz.ntmps10
  go_wp2_with fail
  refine (dUnhide C1 _ (hb0 _ _)).mono ?_
  rintro e w1 ⟨rfl, b1⟩
  have B1 := belowThen (hb0 _ _) b1
  have k1 := X0.below b1 1 _ rfl
  have j1 := Y0.below b1 1 _ rfl
  clear X0 Y0 b1 hb0 C1
  go_wp2
  go_ret
  exact ⟨rfl, B1⟩
end Go.Proofs.YtioocibgfhgkhaaGreatDoor
