/- Eras and registers, as the exact laws handle them: measured, compared. -/
import Derived.Test.YtioocibgfhgkhaaRgA
import Derived.Test.YtioocibgfhgkhaaGaA
import Derived.Deep.RegionHeld3
import Derived.Deep.DeepCutAuto
namespace Go.Proofs.Ytioocibgfhgkhaa
open Go.ChangeShapes Go.WideShapes Go.ChangeAt Go.RowKit
set_option linter.unusedVariables false
set_option linter.unusedSimpArgs false
set_option maxRecDepth 100000

theorem szEra_any (p : Nst Er) (left : Int) (l0 : 0 ≤ left) (l1 : left ≤ 1048576) (w : World) (h : Ns w (Sv Er.nodes p) p.m.nodes) :
    Calls Try.prog 70 #[.agg #[.slice p.a p.m.nodes.length p.c, .bool p.m.closed, .int .i64 p.m.last], .int .i64 left] w fun r w' => r = .returned (.int .i64 (lft left p.m.nodes.length)) ∧ Below w.heap.size w w' := by
  have hb0 : ∀ o, Below w.heap.size w (w.alloc o) := fun o => (Below.refl _ _).alloc (Nat.le_refl _) o
  have C1 := dHide fun o => szIntS_any _ p.m.nodes left l0 l1 (w.alloc o) (h.below (hb0 o))
  clear h
  unfold Sv at C1
  by_cases hl : left < (p.m.nodes.length : Int)
  · rw [show left1 p.m.nodes.length left = -1 from if_pos hl] at C1
    rw [lft_no hl]
    clear hl
    go_enter Try.func70, Try.ntmps70
    go_wp2_with fail
    refine (dUnhide C1 _).mono ?_
    rintro e w1 ⟨rfl, rfl⟩
    go_wp2
    go_ret
    exact ⟨rfl, hb0 _⟩
  · rw [show left1 p.m.nodes.length left = left - (p.m.nodes.length : Int) from if_neg hl] at C1
    rw [lft_yes hl]
    have hd' : ¬ (left - (p.m.nodes.length : Int) < 0) := by omega
    clear hl
    go_enter Try.func70, Try.ntmps70
    go_wp2_with fail
    refine (dUnhide C1 _).mono ?_
    rintro e w1 ⟨rfl, rfl⟩
    go_wp2
    go_ret
    exact ⟨rfl, hb0 _⟩
set_option maxHeartbeats 2000000 in
theorem szEraS_any (v : Value) (ms : List Er) (left : Int) (l0 : 0 ≤ left) (l1 : left ≤ 1048576) (w : World) (hv : RdEraS v ms w) :
    Calls Try.prog 43 #[v, .int .i64 left] w fun r w' => r = .returned (.int .i64 (lft left (sizEraS ms))) ∧ Below w.heap.size w w' := by
  obtain ⟨rs, rfl, hr, hn⟩ := hv
  have HV := dHide fun W (hb : Below w.heap.size w W) => hr.below hb
  have HN := dHide fun W (hb : Below w.heap.size w W) k (hk : k < rs.length) => (hn _ (List.getElem_mem hk)).below hb
  obtain ⟨h0, a, cap, rfl, -, -⟩ := hr
  have e0 : sizEraS (rs.map Nst.m) = rs.length + sumN (rs.map Nst.m) := by unfold sizEraS; rw [List.length_map]
  rw [e0]
  clear hn e0
  by_cases hl : left < (rs.length : Int)
  · have e1 : lft left (rs.length + sumN (rs.map Nst.m)) = -1 := lft_no (by omega)
    rw [e1]
    have hd : left - (rs.length : Int) < 0 := by omega
    clear HV HN e1
    go_enter Try.func43, Try.ntmps43
    go_wp2
    go_ret
    exact ⟨rfl, Below.refl _ _⟩
  · have hd : ¬ left - (rs.length : Int) < 0 := by omega
    have LN : Hid (left < ((rs.length + sumN (rs.map Nst.m) : Nat) : Int) → lft left (rs.length + sumN (rs.map Nst.m)) = -1) := lft_no
    have LY : Hid (¬ left < ((rs.length + sumN (rs.map Nst.m) : Nat) : Int) → lft left (rs.length + sumN (rs.map Nst.m)) = left - ((rs.length + sumN (rs.map Nst.m) : Nat) : Int)) := lft_yes
    generalize lft left (rs.length + sumN (rs.map Nst.m)) = M at *
    go_enter Try.func43, Try.ntmps43
    go_wp2
    go_loopw [5, 1] (fun x y wr => ∃ (k : Nat) (q : Int), x = .int .i64 (k : Int) ∧ y = .int .i64 q ∧ k ≤ rs.length ∧ 0 ≤ q ∧ q ≤ 1048576 ∧ Hid (q = left - (rs.length : Int) - (sumN ((rs.map Nst.m).take k) : Int)) ∧ Below w.heap.size w wr) (fun x _ _ => rs.length - (intOf x).toNat)
    case atStart => exact ⟨0, _, rfl, rfl, Nat.zero_le _, by omega, by omega, by simp [Hid, sumN], Below.refl _ _⟩
    case round =>
      obtain ⟨k, q, rfl, rfl, hk, q0, q1, hq, hb⟩ := hrel
      by_cases hlt : (k : Int) < (rs.length : Int)
      · have hkl : k < rs.length := by omega
        obtain ⟨b, off, rfl, hc⟩ := (dUnhide HV wr hb).era hkl
        have hs := sumN_take (rs.map Nst.m) k (by simpa using hkl)
        have hs2 := sumN_le (rs.map Nst.m) (k + 1)
        rw [List.getElem_map] at hs
        have CE := dHide fun W (hB : Below wr.heap.size wr W) => szEra_any rs[k] q q0 q1 W (dUnhide HN W (belowThen hb hB) k hkl)
        obtain ⟨c0, c1, c2⟩ := hc k hkl
        have hq' := dUnhide hq
        generalize rs[k] = y at *
        obtain ⟨ya, yc, yn, yb, yl⟩ := y
        simp only at *
        by_cases hn : q < (yn.length : Int)
        · rw [lft_no hn] at CE
          have e1 := dUnhide LN (by omega)
          subst e1
          clear hc HV HN hq' hq hs hs2 hn LN LY
          go_wp2_with fail
          refine (dUnhide CE _ (Below.refl _ _)).mono ?_
          rintro r w2 ⟨rfl, b2⟩
          have hb2 := belowThen hb b2
          clear CE b2 c0 c1 c2 hb
          go_wp2
          go_ret
          exact ⟨rfl, hb2⟩
        · rw [lft_yes hn] at CE
          have e1 : Hid (q - (yn.length : Int) = left - (rs.length : Int) - (sumN ((rs.map Nst.m).take (k + 1)) : Int)) := by rw [Hid, hs]; omega
          have q0' : 0 ≤ q - (yn.length : Int) := by omega
          have q1' : q - (yn.length : Int) ≤ 1048576 := by omega
          generalize q - (yn.length : Int) = q' at *
          have hd' : ¬ q' < 0 := by omega
          clear hc hq' hq hs hs2 hn
          go_wp2_with fail
          refine (dUnhide CE _ (Below.refl _ _)).mono ?_
          rintro r w2 ⟨rfl, b2⟩
          have hb2 := belowThen hb b2
          clear CE b2 c0 c1 c2 hb
          go_wp2
          go_roundw
          case rel => exact ⟨k + 1, q', by go_num, rfl, by omega, q0', q1', e1, hb2⟩
          case measure => simp [intOf]; omega
      · have e1 : (rs.map Nst.m).take k = rs.map Nst.m := List.take_of_length_le (by rw [List.length_map]; omega)
        have hq' := dUnhide hq
        rw [e1] at hq'
        have e2 := dUnhide LY (by omega)
        have e3 : Hid (q = M) := by rw [Hid, e2, hq']; omega
        clear hq hq' e1 e2 LN LY HV HN
        go_wp2
        go_ret
        exact ⟨by rw [← dUnhide e3]; rfl, hb⟩
theorem szRegister_ (v : Value) (m : Rg) (left : Int) (l0 : 0 ≤ left) (l1 : left ≤ 1048576) (w : World) (h : RdRegister v m w) :
    Calls Try.prog 16 #[v, .int .i64 left] w fun e w' => e = .returned (.int .i64 (lft left (sizRegister m))) ∧ Below w.heap.size w w' := by
  have hb0 : ∀ o, Below w.heap.size w (w.alloc o) := fun o => (Below.refl _ _).alloc (Nat.le_refl _) o
  obtain ⟨sv, rfl, h⟩ := h
  have C1 := dHide fun W (hb : Below w.heap.size w W) => szEraS_any sv m.eras left l0 l1 W (RdK.below h hb)
  obtain ⟨a, cap, rfl, -⟩ := formK h
  have e0 : sizRegister m = sizEraS m.eras := rfl
  rw [e0]
  have hL : lft left (sizEraS m.eras) < 0 → lft left (sizEraS m.eras) = -1 := fun h => by
    unfold lft at h ⊢
    split
    · rfl
    · rename_i h2; rw [if_neg h2] at h; omega
  generalize lft left (sizEraS m.eras) = M at *
  have HL := dHide hL
  clear hL h e0
  go_enter Try.func16, Try.ntmps16
  go_wp2_with fail
  refine (dUnhide C1 _ (hb0 _)).mono ?_
  rintro r w1 ⟨rfl, b1⟩
  have B1 := belowThen (hb0 _) b1
  clear b1 hb0 C1
  by_cases hM : M < 0
  · have e1 := dUnhide HL hM
    subst e1
    go_wp2
    go_ret
    exact ⟨rfl, B1⟩
  · go_wp2
    go_ret
    exact ⟨rfl, B1⟩
set_option maxHeartbeats 2000000 in
theorem eqEra_yes (p q : Nst Er) (w : World) (hm : p.m = q.m) (h : Ns w (Sv Er.nodes p) p.m.nodes) (h' : Ns w (Sv Er.nodes q) q.m.nodes) :
    Calls Try.prog 79 #[.agg #[.slice p.a p.m.nodes.length p.c, .bool p.m.closed, .int .i64 p.m.last], .agg #[.slice q.a q.m.nodes.length q.c, .bool q.m.closed, .int .i64 q.m.last]] w fun r w' => r = .returned (.bool true) ∧ Below w.heap.size w w' := by
  obtain ⟨pa, pc, m⟩ := p
  obtain ⟨qa, qc, m'⟩ := q
  cases hm
  have hb0 : ∀ o o', Below w.heap.size w ((w.alloc o).alloc o') := fun o o' => ((Below.refl _ _).alloc (Nat.le_refl _) o).alloc (by simp) o'
  have C1 := dHide fun o o' => eqIntS_yes _ _ m.nodes ((w.alloc o).alloc o') (h.below (hb0 o o')) (h'.below (hb0 o o'))
  unfold Sv at C1
  clear h h'
  simp only at *
  obtain ⟨yn, yb, yl⟩ := m
  simp only at *
  have X0 := (Bx.new w [.slice pa yn.length pc, .bool yb, .int .i64 yl] 86).below ((Below.refl _ _).alloc (Nat.le_refl _) (.cells #[.slice qa yn.length qc, .bool yb, .int .i64 yl] 86))
  have Y0 := Bx.new (w.alloc (.cells #[.slice pa yn.length pc, .bool yb, .int .i64 yl] 86)) [.slice qa yn.length qc, .bool yb, .int .i64 yl] 86
  have e1 : (w.alloc (.cells #[.slice pa yn.length pc, .bool yb, .int .i64 yl] 86)).heap.size = w.heap.size + 1 := by simp
  rw [e1] at Y0
  clear e1
  go_enter Try.func79, Try.ntmps79
  go_wp2_with fail
  refine (dUnhide C1 _ _).mono ?_
  rintro e w1 ⟨rfl, b1⟩
  have B1 := belowThen (hb0 _ _) b1
  have X1 := X0.below b1
  have Y1 := Y0.below b1
  have k1 := X1 1 _ rfl
  have k2 := X1 2 _ rfl
  have j1 := Y1 1 _ rfl
  have j2 := Y1 2 _ rfl
  clear X0 Y0 b1 hb0 C1 X1 Y1
  go_wp2
  go_ret
  exact ⟨rfl, B1⟩
set_option maxHeartbeats 4000000 in
theorem eqEraS_ (u v : Value) (m : List Er) (w : World) (hu : RdEraS u m w) (hv : RdEraS v m w) :
    Calls Try.prog 49 #[u, v] w fun e w' => e = .returned (.bool true) ∧ Below w.heap.size w w' := by
  obtain ⟨rs, e1, hr, hn⟩ := hu
  obtain ⟨ss, e2, hs, hp⟩ := hv
  have el : rs.length = ss.length := by rw [← List.length_map (f := Nst.m), e1, ← e2, List.length_map]
  have em : Hid (∀ k (h : k < rs.length) (h' : k < ss.length), rs[k].m = ss[k].m) := fun k h h' => by
    have q1 : (rs.map Nst.m)[k]? = (ss.map Nst.m)[k]? := by rw [e1, e2]
    rw [List.getElem?_map, List.getElem?_map, List.getElem?_eq_getElem h, List.getElem?_eq_getElem h'] at q1
    simpa using q1
  have HU := dHide fun W (hb : Below w.heap.size w W) => hr.below hb
  have HV := dHide fun W (hb : Below w.heap.size w W) => hs.below hb
  have HN := dHide fun W (hb : Below w.heap.size w W) k (hk : k < rs.length) => (hn _ (List.getElem_mem hk)).below hb
  have HP := dHide fun W (hb : Below w.heap.size w W) k (hk : k < ss.length) => (hp _ (List.getElem_mem hk)).below hb
  obtain ⟨h0, a, cap, rfl, -, -⟩ := hr
  obtain ⟨h0', a', cap', rfl, -, -⟩ := hs
  rw [← el]
  have EL := dHide el
  clear hn hp e1 e2 el h0'
  go_enter Try.func49, Try.ntmps49
  go_wp2
  go_loopw [5] (fun i wr => ∃ k : Nat, i = .int .i64 (k : Int) ∧ k ≤ rs.length ∧ Below w.heap.size w wr) (fun i _ => rs.length - (intOf i).toNat)
  case atStart => exact ⟨0, rfl, Nat.zero_le _, Below.refl _ _⟩
  case round =>
    obtain ⟨k, rfl, hk, hb⟩ := hrel
    by_cases hlt : (k : Int) < (rs.length : Int)
    · have hkl : k < rs.length := by omega
      have hkl' : k < ss.length := by rw [← dUnhide EL]; exact hkl
      obtain ⟨b, off, rfl, hc⟩ := (dUnhide HU wr hb).era hkl
      obtain ⟨b', off', rfl, hc'⟩ := (dUnhide HV wr hb).era hkl'
      have E1 := dHide (hc k hkl)
      have E2 := dHide (hc' k hkl')
      obtain ⟨c0, c1, c2⟩ := hc k hkl
      obtain ⟨e0, e1, e2⟩ := hc' k hkl'
      have CE := dHide fun W (hB : Below wr.heap.size wr W) => eqEra_yes rs[k] ss[k] W (dUnhide em k hkl hkl') (dUnhide HN W (belowThen hb hB) k hkl) (dUnhide HP W (belowThen hb hB) k hkl')
      generalize rs[k] = y at *
      generalize ss[k] = y' at *
      obtain ⟨ya, yc, yn, yb, yl⟩ := y
      obtain ⟨za, zc, zn, zb, zl⟩ := y'
      unfold ErAt at E1 E2
      simp only at *
      clear hc hc' HU HV HN HP em
      have hbr : Below wr.heap.size wr wr.drew := (Below.refl _ _).drew
      go_wp2_with fail
      go_region_held3 (fun W => (W.cell? ⟨b, off + k * 3, none⟩ = some (.slice ya yn.length yc) ∧ W.cell? ⟨b, off + k * 3 + 1, none⟩ = some (.bool yb) ∧ W.cell? ⟨b, off + k * 3 + 2, none⟩ = some (.int .i64 yl)) ∧ W.cell? ⟨b', off' + k * 3, none⟩ = some (.slice za zn.length zc) ∧ W.cell? ⟨b', off' + k * 3 + 1, none⟩ = some (.bool zb) ∧ W.cell? ⟨b', off' + k * 3 + 2, none⟩ = some (.int .i64 zl)) (first | exact ⟨ErAt.below (p := ⟨ya, yc, yn, yb, yl⟩) (dUnhide E1) hb5, ErAt.below (p := ⟨za, zc, zn, zb, zl⟩) (dUnhide E2) hb5⟩ | go_keep)
        (first
          | (go_at_call 79; refine (dUnhide CE _ hbr).mono ?_; rintro r w5 ⟨rfl, b5⟩; have hb5 := belowThen hbr b5))
      all_goals
        go_wp2
        go_roundw
        case rel => exact ⟨k + 1, by go_num, by omega, belowThen hb hb5⟩
        case measure => simp [intOf]; omega
    · clear HU HV HN HP em
      go_wp2
      go_ret
      exact ⟨rfl, hb⟩
set_option maxHeartbeats 2000000 in
theorem eqRegister_ (u v : Value) (m : Rg) (w : World) (hu : RdRegister u m w) (hv : RdRegister v m w) :
    Calls Try.prog 20 #[u, v] w fun e w' => e = .returned (.bool true) ∧ Below w.heap.size w w' := by
  have hb0 : ∀ o o', Below w.heap.size w ((w.alloc o).alloc o') := fun o o' => ((Below.refl _ _).alloc (Nat.le_refl _) o).alloc (by simp) o'
  obtain ⟨su, rfl, hu⟩ := hu
  obtain ⟨sv, rfl, hv⟩ := hv
  have C1 := dHide fun W (hb : Below w.heap.size w W) => eqEraS_ su sv m.eras W (RdK.below hu hb) (RdK.below hv hb)
  obtain ⟨a, cap, rfl, -⟩ := formK hu
  obtain ⟨a', cap', rfl, -⟩ := formK hv
  generalize m.trim = sl at *
  have X0 := (Bx.new w [.slice a m.eras.length cap, .int .i64 sl] 43).below ((Below.refl _ _).alloc (Nat.le_refl _) (.cells #[.slice a' m.eras.length cap', .int .i64 sl] 43))
  have Y0 := Bx.new (w.alloc (.cells #[.slice a m.eras.length cap, .int .i64 sl] 43)) [.slice a' m.eras.length cap', .int .i64 sl] 43
  have e1 : (w.alloc (.cells #[.slice a m.eras.length cap, .int .i64 sl] 43)).heap.size = w.heap.size + 1 := by simp
  rw [e1] at Y0
  clear e1 hu hv
  go_enter Try.func20, Try.ntmps20
  go_wp2_with fail
  refine (dUnhide C1 _ (hb0 _ _)).mono ?_
  rintro e w1 ⟨rfl, b1⟩
  have B1 := belowThen (hb0 _ _) b1
  have k1 := X0.below b1 1 _ rfl
  have j1 := Y0.below b1 1 _ rfl
  clear X0 Y0 b1 hb0 C1
  go_wp2
  go_ret
  exact ⟨rfl, B1⟩
end Go.Proofs.Ytioocibgfhgkhaa
