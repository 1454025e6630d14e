/- Several texts in one: SitR, SitS, SitT, SitU. -/
import Derived.Test.YtognmmmplmideaaDoorGaD
import Derived.Test.YtognmmmplmideaaDoorGaA
import Derived.Deep.RegionHeld3
import Derived.Deep.DeepCutAuto
namespace Go.Proofs.YtognmmmplmideaaDoor
open Go.ChangeShapes Go.WideShapes Go.ChangeAt Go.RowKit
set_option linter.unusedVariables false
set_option linter.unusedSimpArgs false
set_option maxRecDepth 100000

theorem szEra_any (p : Nst Er) (left : Int) (l0 : 0 ≤ left) (l1 : left ≤ 1048576) (w : World) (h : Ns w (Sv Er.nodes p) p.m.nodes) :
    Calls Tryd.prog 93 #[.agg #[.slice p.a p.m.nodes.length p.c, .bool p.m.closed, .int .i64 p.m.last], .int .i64 left] w fun r w' => r = .returned (.int .i64 (lft left p.m.nodes.length)) ∧ Below w.heap.size w w' := by
  have hb0 : ∀ o, Below w.heap.size w (w.alloc o) := fun o => (Below.refl _ _).alloc (Nat.le_refl _) o
  have C1 := dHide fun o => szIntS_any _ p.m.nodes left l0 l1 (w.alloc o) (h.below (hb0 o))
  clear h
  unfold Sv at C1
  by_cases hl : left < (p.m.nodes.length : Int)
  · rw [show left1 p.m.nodes.length left = -1 from if_pos hl] at C1
    rw [lft_no hl]
    clear hl
    go_enter Tryd.func93, Tryd.ntmps93
    go_wp2_with fail
    refine (dUnhide C1 _).mono ?_
    rintro e w1 ⟨rfl, rfl⟩
    go_wp2
    go_ret
    exact ⟨rfl, hb0 _⟩
  · rw [show left1 p.m.nodes.length left = left - (p.m.nodes.length : Int) from if_neg hl] at C1
    rw [lft_yes hl]
    have hd' : ¬ (left - (p.m.nodes.length : Int) < 0) := by omega
    clear hl
    go_enter Tryd.func93, Tryd.ntmps93
    go_wp2_with fail
    refine (dUnhide C1 _).mono ?_
    rintro e w1 ⟨rfl, rfl⟩
    go_wp2
    go_ret
    exact ⟨rfl, hb0 _⟩
set_option maxHeartbeats 2000000 in
theorem szEraS_any (v : Value) (ms : List Er) (left : Int) (l0 : 0 ≤ left) (l1 : left ≤ 1048576) (w : World) (hv : RdEraS v ms w) :
    Calls Tryd.prog 73 #[v, .int .i64 left] w fun r w' => r = .returned (.int .i64 (lft left (sizEraS ms))) ∧ Below w.heap.size w w' := by
  obtain ⟨rs, rfl, hr, hn⟩ := hv
  have HV := dHide fun W (hb : Below w.heap.size w W) => hr.below hb
  have HN := dHide fun W (hb : Below w.heap.size w W) k (hk : k < rs.length) => (hn _ (List.getElem_mem hk)).below hb
  obtain ⟨h0, a, cap, rfl, -, -⟩ := hr
  have e0 : sizEraS (rs.map Nst.m) = rs.length + sumN (rs.map Nst.m) := by unfold sizEraS; rw [List.length_map]
  rw [e0]
  clear hn e0
  by_cases hl : left < (rs.length : Int)
  · have e1 : lft left (rs.length + sumN (rs.map Nst.m)) = -1 := lft_no (by omega)
    rw [e1]
    have hd : left - (rs.length : Int) < 0 := by omega
    clear HV HN e1
    go_enter Tryd.func73, Tryd.ntmps73
    go_wp2
    go_ret
    exact ⟨rfl, Below.refl _ _⟩
  · have hd : ¬ left - (rs.length : Int) < 0 := by omega
    have LN : Hid (left < ((rs.length + sumN (rs.map Nst.m) : Nat) : Int) → lft left (rs.length + sumN (rs.map Nst.m)) = -1) := lft_no
    have LY : Hid (¬ left < ((rs.length + sumN (rs.map Nst.m) : Nat) : Int) → lft left (rs.length + sumN (rs.map Nst.m)) = left - ((rs.length + sumN (rs.map Nst.m) : Nat) : Int)) := lft_yes
    generalize lft left (rs.length + sumN (rs.map Nst.m)) = M at *
    go_enter Tryd.func73, Tryd.ntmps73
    go_wp2
    go_loopw [5, 1] (fun x y wr => ∃ (k : Nat) (q : Int), x = .int .i64 (k : Int) ∧ y = .int .i64 q ∧ k ≤ rs.length ∧ 0 ≤ q ∧ q ≤ 1048576 ∧ Hid (q = left - (rs.length : Int) - (sumN ((rs.map Nst.m).take k) : Int)) ∧ Below w.heap.size w wr) (fun x _ _ => rs.length - (intOf x).toNat)
    case atStart => exact ⟨0, _, rfl, rfl, Nat.zero_le _, by omega, by omega, by simp [Hid, sumN], Below.refl _ _⟩
    case round =>
      obtain ⟨k, q, rfl, rfl, hk, q0, q1, hq, hb⟩ := hrel
      by_cases hlt : (k : Int) < (rs.length : Int)
      · have hkl : k < rs.length := by omega
        obtain ⟨b, off, rfl, hc⟩ := (dUnhide HV wr hb).era hkl
        have hs := sumN_take (rs.map Nst.m) k (by simpa using hkl)
        have hs2 := sumN_le (rs.map Nst.m) (k + 1)
        rw [List.getElem_map] at hs
        have CE := dHide fun W (hB : Below wr.heap.size wr W) => szEra_any rs[k] q q0 q1 W (dUnhide HN W (belowThen hb hB) k hkl)
        obtain ⟨c0, c1, c2⟩ := hc k hkl
        have hq' := dUnhide hq
        generalize rs[k] = y at *
        obtain ⟨ya, yc, yn, yb, yl⟩ := y
        simp only at *
        by_cases hn : q < (yn.length : Int)
        · rw [lft_no hn] at CE
          have e1 := dUnhide LN (by omega)
          subst e1
          clear hc HV HN hq' hq hs hs2 hn LN LY
          go_wp2_with fail
          refine (dUnhide CE _ (Below.refl _ _)).mono ?_
          rintro r w2 ⟨rfl, b2⟩
          have hb2 := belowThen hb b2
          clear CE b2 c0 c1 c2 hb
          go_wp2
          go_ret
          exact ⟨rfl, hb2⟩
        · rw [lft_yes hn] at CE
          have e1 : Hid (q - (yn.length : Int) = left - (rs.length : Int) - (sumN ((rs.map Nst.m).take (k + 1)) : Int)) := by rw [Hid, hs]; omega
          have q0' : 0 ≤ q - (yn.length : Int) := by omega
          have q1' : q - (yn.length : Int) ≤ 1048576 := by omega
          generalize q - (yn.length : Int) = q' at *
          have hd' : ¬ q' < 0 := by omega
          clear hc hq' hq hs hs2 hn
          go_wp2_with fail
          refine (dUnhide CE _ (Below.refl _ _)).mono ?_
          rintro r w2 ⟨rfl, b2⟩
          have hb2 := belowThen hb b2
          clear CE b2 c0 c1 c2 hb
          go_wp2
          go_roundw
          case rel => exact ⟨k + 1, q', by go_num, rfl, by omega, q0', q1', e1, hb2⟩
          case measure => simp [intOf]; omega
      · have e1 : (rs.map Nst.m).take k = rs.map Nst.m := List.take_of_length_le (by rw [List.length_map]; omega)
        have hq' := dUnhide hq
        rw [e1] at hq'
        have e2 := dUnhide LY (by omega)
        have e3 : Hid (q = M) := by rw [Hid, e2, hq']; omega
        clear hq hq' e1 e2 LN LY HV HN
        go_wp2
        go_ret
        exact ⟨by rw [← dUnhide e3]; rfl, hb⟩
theorem szRegister_ (v : Value) (m : Rg) (left : Int) (l0 : 0 ≤ left) (l1 : left ≤ 1048576) (w : World) (h : RdRegister v m w) :
    Calls Tryd.prog 27 #[v, .int .i64 left] w fun e w' => e = .returned (.int .i64 (lft left (sizRegister m))) ∧ Below w.heap.size w w' := by
  have hb0 : ∀ o, Below w.heap.size w (w.alloc o) := fun o => (Below.refl _ _).alloc (Nat.le_refl _) o
  obtain ⟨sv, rfl, h⟩ := h
  have C1 := dHide fun W (hb : Below w.heap.size w W) => szEraS_any sv m.eras left l0 l1 W (RdK.below h hb)
  obtain ⟨a, cap, rfl, -⟩ := formK h
  have e0 : sizRegister m = sizEraS m.eras := rfl
  rw [e0]
  have hL : lft left (sizEraS m.eras) < 0 → lft left (sizEraS m.eras) = -1 := fun h => by
    unfold lft at h ⊢
    split
    · rfl
    · rename_i h2; rw [if_neg h2] at h; omega
  generalize lft left (sizEraS m.eras) = M at *
  have HL := dHide hL
  clear hL h e0
  go_enter Tryd.func27, Tryd.ntmps27
  go_wp2_with fail
  refine (dUnhide C1 _ (hb0 _)).mono ?_
  rintro r w1 ⟨rfl, b1⟩
  have B1 := belowThen (hb0 _) b1
  clear b1 hb0 C1
  by_cases hM : M < 0
  · have e1 := dUnhide HL hM
    subst e1
    go_wp2
    go_ret
    exact ⟨rfl, B1⟩
  · go_wp2
    go_ret
    exact ⟨rfl, B1⟩
set_option maxHeartbeats 2000000 in
theorem eqEra_yes (p q : Nst Er) (w : World) (hm : p.m = q.m) (h : Ns w (Sv Er.nodes p) p.m.nodes) (h' : Ns w (Sv Er.nodes q) q.m.nodes) :
    Calls Tryd.prog 95 #[.agg #[.slice p.a p.m.nodes.length p.c, .bool p.m.closed, .int .i64 p.m.last], .agg #[.slice q.a q.m.nodes.length q.c, .bool q.m.closed, .int .i64 q.m.last]] w fun r w' => r = .returned (.bool true) ∧ Below w.heap.size w w' := by
  obtain ⟨pa, pc, m⟩ := p
  obtain ⟨qa, qc, m'⟩ := q
  cases hm
  have hb0 : ∀ o o', Below w.heap.size w ((w.alloc o).alloc o') := fun o o' => ((Below.refl _ _).alloc (Nat.le_refl _) o).alloc (by simp) o'
  have C1 := dHide fun o o' => eqIntS_yes _ _ m.nodes ((w.alloc o).alloc o') (h.below (hb0 o o')) (h'.below (hb0 o o'))
  unfold Sv at C1
  clear h h'
  simp only at *
  obtain ⟨yn, yb, yl⟩ := m
  simp only at *
  have X0 := (Bx.new w [.slice pa yn.length pc, .bool yb, .int .i64 yl] 37).below ((Below.refl _ _).alloc (Nat.le_refl _) (.cells #[.slice qa yn.length qc, .bool yb, .int .i64 yl] 37))
  have Y0 := Bx.new (w.alloc (.cells #[.slice pa yn.length pc, .bool yb, .int .i64 yl] 37)) [.slice qa yn.length qc, .bool yb, .int .i64 yl] 37
  have e1 : (w.alloc (.cells #[.slice pa yn.length pc, .bool yb, .int .i64 yl] 37)).heap.size = w.heap.size + 1 := by simp
  rw [e1] at Y0
  clear e1
  go_enter Tryd.func95, Tryd.ntmps95
  go_wp2_with fail
  refine (dUnhide C1 _ _).mono ?_
  rintro e w1 ⟨rfl, b1⟩
  have B1 := belowThen (hb0 _ _) b1
  have X1 := X0.below b1
  have Y1 := Y0.below b1
  have k1 := X1 1 _ rfl
  have k2 := X1 2 _ rfl
  have j1 := Y1 1 _ rfl
  have j2 := Y1 2 _ rfl
  clear X0 Y0 b1 hb0 C1 X1 Y1
  go_wp2
  go_ret
  exact ⟨rfl, B1⟩
set_option maxHeartbeats 4000000 in
theorem eqEraS_ (u v : Value) (m : List Er) (w : World) (hu : RdEraS u m w) (hv : RdEraS v m w) :
    Calls Tryd.prog 75 #[u, v] w fun e w' => e = .returned (.bool true) ∧ Below w.heap.size w w' := by
  obtain ⟨rs, e1, hr, hn⟩ := hu
  obtain ⟨ss, e2, hs, hp⟩ := hv
  have el : rs.length = ss.length := by rw [← List.length_map (f := Nst.m), e1, ← e2, List.length_map]
  have em : Hid (∀ k (h : k < rs.length) (h' : k < ss.length), rs[k].m = ss[k].m) := fun k h h' => by
    have q1 : (rs.map Nst.m)[k]? = (ss.map Nst.m)[k]? := by rw [e1, e2]
    rw [List.getElem?_map, List.getElem?_map, List.getElem?_eq_getElem h, List.getElem?_eq_getElem h'] at q1
    simpa using q1
  have HU := dHide fun W (hb : Below w.heap.size w W) => hr.below hb
  have HV := dHide fun W (hb : Below w.heap.size w W) => hs.below hb
  have HN := dHide fun W (hb : Below w.heap.size w W) k (hk : k < rs.length) => (hn _ (List.getElem_mem hk)).below hb
  have HP := dHide fun W (hb : Below w.heap.size w W) k (hk : k < ss.length) => (hp _ (List.getElem_mem hk)).below hb
  obtain ⟨h0, a, cap, rfl, -, -⟩ := hr
  obtain ⟨h0', a', cap', rfl, -, -⟩ := hs
  rw [← el]
  have EL := dHide el
  clear hn hp e1 e2 el h0'
  go_enter Tryd.func75, Tryd.ntmps75
  go_wp2
  go_loopw [5] (fun i wr => ∃ k : Nat, i = .int .i64 (k : Int) ∧ k ≤ rs.length ∧ Below w.heap.size w wr) (fun i _ => rs.length - (intOf i).toNat)
  case atStart => exact ⟨0, rfl, Nat.zero_le _, Below.refl _ _⟩
  case round =>
    obtain ⟨k, rfl, hk, hb⟩ := hrel
    by_cases hlt : (k : Int) < (rs.length : Int)
    · have hkl : k < rs.length := by omega
      have hkl' : k < ss.length := by rw [← dUnhide EL]; exact hkl
      obtain ⟨b, off, rfl, hc⟩ := (dUnhide HU wr hb).era hkl
      obtain ⟨b', off', rfl, hc'⟩ := (dUnhide HV wr hb).era hkl'
      have E1 := dHide (hc k hkl)
      have E2 := dHide (hc' k hkl')
      obtain ⟨c0, c1, c2⟩ := hc k hkl
      obtain ⟨e0, e1, e2⟩ := hc' k hkl'
      have CE := dHide fun W (hB : Below wr.heap.size wr W) => eqEra_yes rs[k] ss[k] W (dUnhide em k hkl hkl') (dUnhide HN W (belowThen hb hB) k hkl) (dUnhide HP W (belowThen hb hB) k hkl')
      generalize rs[k] = y at *
      generalize ss[k] = y' at *
      obtain ⟨ya, yc, yn, yb, yl⟩ := y
      obtain ⟨za, zc, zn, zb, zl⟩ := y'
      unfold ErAt at E1 E2
      simp only at *
      clear hc hc' HU HV HN HP em
      have hbr : Below wr.heap.size wr wr.drew := (Below.refl _ _).drew
      go_wp2_with fail
      go_region_held3 (fun W => (W.cell? ⟨b, off + k * 3, none⟩ = some (.slice ya yn.length yc) ∧ W.cell? ⟨b, off + k * 3 + 1, none⟩ = some (.bool yb) ∧ W.cell? ⟨b, off + k * 3 + 2, none⟩ = some (.int .i64 yl)) ∧ W.cell? ⟨b', off' + k * 3, none⟩ = some (.slice za zn.length zc) ∧ W.cell? ⟨b', off' + k * 3 + 1, none⟩ = some (.bool zb) ∧ W.cell? ⟨b', off' + k * 3 + 2, none⟩ = some (.int .i64 zl)) (first | exact ⟨ErAt.below (p := ⟨ya, yc, yn, yb, yl⟩) (dUnhide E1) hb5, ErAt.below (p := ⟨za, zc, zn, zb, zl⟩) (dUnhide E2) hb5⟩ | go_keep)
        (first
          | (go_at_call 95; refine (dUnhide CE _ hbr).mono ?_; rintro r w5 ⟨rfl, b5⟩; have hb5 := belowThen hbr b5))
      all_goals
        go_wp2
        go_roundw
        case rel => exact ⟨k + 1, by go_num, by omega, belowThen hb hb5⟩
        case measure => simp [intOf]; omega
    · clear HU HV HN HP em
      go_wp2
      go_ret
      exact ⟨rfl, hb⟩
set_option maxHeartbeats 2000000 in
theorem eqRegister_ (u v : Value) (m : Rg) (w : World) (hu : RdRegister u m w) (hv : RdRegister v m w) :
    Calls Tryd.prog 31 #[u, v] w fun e w' => e = .returned (.bool true) ∧ Below w.heap.size w w' := by
  have hb0 : ∀ o o', Below w.heap.size w ((w.alloc o).alloc o') := fun o o' => ((Below.refl _ _).alloc (Nat.le_refl _) o).alloc (by simp) o'
  obtain ⟨su, rfl, hu⟩ := hu
  obtain ⟨sv, rfl, hv⟩ := hv
  have C1 := dHide fun W (hb : Below w.heap.size w W) => eqEraS_ su sv m.eras W (RdK.below hu hb) (RdK.below hv hb)
  obtain ⟨a, cap, rfl, -⟩ := formK hu
  obtain ⟨a', cap', rfl, -⟩ := formK hv
  generalize m.trim = sl at *
  have X0 := (Bx.new w [.slice a m.eras.length cap, .int .i64 sl] 29).below ((Below.refl _ _).alloc (Nat.le_refl _) (.cells #[.slice a' m.eras.length cap', .int .i64 sl] 29))
  have Y0 := Bx.new (w.alloc (.cells #[.slice a m.eras.length cap, .int .i64 sl] 29)) [.slice a' m.eras.length cap', .int .i64 sl] 29
  have e1 : (w.alloc (.cells #[.slice a m.eras.length cap, .int .i64 sl] 29)).heap.size = w.heap.size + 1 := by simp
  rw [e1] at Y0
  clear e1 hu hv
  go_enter Tryd.func31, Tryd.ntmps31
  go_wp2_with fail
  refine (dUnhide C1 _ (hb0 _ _)).mono ?_
  rintro e w1 ⟨rfl, b1⟩
  have B1 := belowThen (hb0 _ _) b1
  have k1 := X0.below b1 1 _ rfl
  have j1 := Y0.below b1 1 _ rfl
  clear X0 Y0 b1 hb0 C1
  go_wp2
  go_ret
  exact ⟨rfl, B1⟩
end Go.Proofs.YtognmmmplmideaaDoor
namespace Go.Proofs.YtognmmmplmideaaDoor
open Go.ChangeShapes Go.WideShapes Go.ChangeAt Go.RowKit
set_option linter.unusedVariables false
set_option linter.unusedSimpArgs false
set_option maxRecDepth 100000

/-- What lies apart is owned as a whole. -/
theorem OwK.build {α : Type} {sz : Nat} {sub : α → List Int} {cl : Nst α → List Value} {w : World} {lo hi b off n cap : Nat} {f : Nat → Nst α} (h : RowG sz cl w b off n f) (hb : lo ≤ b) (hbl : n = 0 ∨ b < hi) (hn : n ≤ cap ∧ cap ≤ 9223372036854775807)
    (hs : ∀ i, i < n → OwN lo hi (Sv sub (f i)) (sub (f i).m) w) (hd : ∀ i j, i < n → j < n → i ≠ j → sub (f i).m = [] ∨ sub (f j).m = [] ∨ blockOf (Sv sub (f i)) ≠ blockOf (Sv sub (f j))) (hr : ∀ i, i < n → sub (f i).m = [] ∨ blockOf (Sv sub (f i)) ≠ b) :
    OwK sz sub cl lo hi (.slice (some ⟨b, off, none⟩) n cap) ((List.range n).map fun i => (f i).m) w := by
  have hl : ((List.range n).map f).length = n := by simp
  have hq := h.own (es := (List.range n).map f) (base := lo) (cap := cap) hl.symm (fun i hi => by simp) hb (by omega) (by omega)
  rw [hl] at hq
  refine ⟨(List.range n).map f, by simp, hq, ?_, fun p hp => ?_, fun i j hi hj hij => ?_, fun i hi => ?_⟩
  · rcases hbl with h | h
    · left; subst h; rfl
    · exact .inr h
  · obtain ⟨i, hi, rfl⟩ := List.mem_map.1 hp
    exact hs i (List.mem_range.1 hi)
  · have e1 : ((List.range n).map f)[i] = f i := by simp
    have e2 : ((List.range n).map f)[j] = f j := by simp
    rw [e1, e2]
    exact hd i j (by omega) (by omega) hij
  · have e1 : ((List.range n).map f)[i] = f i := by simp
    rw [e1]
    exact hr i (by omega)
theorem range_map_m {α : Type} {n : Nat} {f : Nat → Nst α} {ms : List α} (hl : n = ms.length) (h : ∀ i (hi : i < ms.length), (f i).m = ms[i]) : ((List.range n).map fun i => (f i).m) = ms := by
  subst hl
  apply List.ext_getElem
  · simp
  · intro i h1 h2
    simp [h i h2]
theorem Bx.farB {w : World} {b b' o : Nat} {vs : List Value} (h : Bx w b vs) (hb : b ≠ b') (u : Value) : Bx (w.setCell ⟨b', o, none⟩ u) b vs := fun i v hv => set_other (h i v hv) (.inl hb)
set_option maxHeartbeats 4000000 in
theorem toEra_any (p : Nst Er) (w : World) (hl : p.m.nodes.length ≤ 1048576) (h : Ns w (Sv Er.nodes p) p.m.nodes) :
    Calls Tryd.prog 94 #[.agg #[.slice p.a p.m.nodes.length p.c, .bool p.m.closed, .int .i64 p.m.last]] w fun r w' => (∃ qa qc, r = .returned (.agg #[.slice qa p.m.nodes.length qc, .bool p.m.closed, .int .i64 p.m.last]) ∧ OwnN w' w.heap.size (.slice qa p.m.nodes.length qc) p.m.nodes) ∧ Below w.heap.size w w' := by
  have ba : ∀ (w : World) o, Below w.heap.size w (w.alloc o) := fun w o => (Below.refl _ _).alloc (Nat.le_refl _) o
  have C1 := dHide fun W (hb : Below w.heap.size w W) => toIntS_any _ p.m.nodes W (by omega) (h.below hb)
  obtain ⟨pa, pc, yn, yb, yl⟩ := p
  unfold Sv at C1
  simp only at *
  clear h
  have X0 := (Bx.new w [.slice pa yn.length pc, .bool yb, .int .i64 yl] 116).below (belowThen (ba _ (.cells #[.slice none 0 0, .bool false, .int .i64 0] 37)) (ba _ (.cells #[.slice none 0 0, .bool false, .int .i64 0] 37)))
  have Y0 := (BxZ.new (B := w.heap.size) (w.alloc (.cells #[.slice pa yn.length pc, .bool yb, .int .i64 yl] 116)) [.slice none 0 0, .bool false, .int .i64 0] 37 (by simp)).below (ba _ (.cells #[.slice none 0 0, .bool false, .int .i64 0] 37))
  have Z0 := BxZ.new (B := w.heap.size) ((w.alloc (.cells #[.slice pa yn.length pc, .bool yb, .int .i64 yl] 116)).alloc (.cells #[.slice none 0 0, .bool false, .int .i64 0] 37)) [.slice none 0 0, .bool false, .int .i64 0] 37 (by simp <;> omega)
  have B0 := belowThen (belowThen (ba w (.cells #[.slice pa yn.length pc, .bool yb, .int .i64 yl] 116)) (ba _ (.cells #[.slice none 0 0, .bool false, .int .i64 0] 37))) (ba _ (.cells #[.slice none 0 0, .bool false, .int .i64 0] 37))
  have e1 : (w.alloc (.cells #[.slice pa yn.length pc, .bool yb, .int .i64 yl] 116)).heap.size = w.heap.size + 1 := by simp
  have e2 : ((w.alloc (.cells #[.slice pa yn.length pc, .bool yb, .int .i64 yl] 116)).alloc (.cells #[.slice none 0 0, .bool false, .int .i64 0] 37)).heap.size = w.heap.size + 1 + 1 := by simp
  rw [e1] at Y0
  rw [e2] at Z0
  clear e1 e2 hl
  go_enter Tryd.func94, Tryd.ntmps94
  go_wp2_with fail
  generalize ((w.alloc (.cells #[.slice pa yn.length pc, .bool yb, .int .i64 yl] 116)).alloc (.cells #[.slice none 0 0, .bool false, .int .i64 0] 37)).alloc (.cells #[.slice none 0 0, .bool false, .int .i64 0] 37) = w0 at *
  have hlt := Z0.lt
  refine (dUnhide C1 _ B0).mono ?_
  rintro r w1 ⟨⟨u1, rfl, O1⟩, b1⟩
  have hs1 := b1.size
  obtain ⟨-, a1, c1, rfl, -, -⟩ := O1.bs
  have B1 := belowThen B0 b1
  have X1 := X0.below b1
  have Y1 := Y0.below b1
  have Z1 := Z0.below b1
  have k0 := X1 0 _ rfl
  have k1 := X1 1 _ rfl
  have k2 := X1 2 _ rfl
  obtain ⟨z0, f0⟩ := Z1.2 0 _ rfl
  obtain ⟨z1, f1⟩ := Z1.2 1 _ rfl
  obtain ⟨z2, f2⟩ := Z1.2 2 _ rfl
  obtain ⟨y0, p0⟩ := Y1.2 0 _ rfl
  obtain ⟨y1, p1⟩ := Y1.2 1 _ rfl
  obtain ⟨y2, p2⟩ := Y1.2 2 _ rfl
  have YY := dHide ((((((Y1.far (b' := w.heap.size + 1 + 1) (o := 0) (by omega) (.slice a1 yn.length c1)).far (b' := w.heap.size + 1 + 1) (o := 1) (by omega) (.bool yb)).far (b' := w.heap.size + 1 + 1) (o := 2) (by omega) (.int .i64 yl)).put 0 (.slice a1 yn.length c1)).put 1 (.bool yb)).put 2 (.int .i64 yl))
  have OO := dHide ((((((O1.far (b := w.heap.size + 1 + 1) (o := 0) (by omega) (.slice a1 yn.length c1)).far (b := w.heap.size + 1 + 1) (o := 1) (by omega) (.bool yb)).far (b := w.heap.size + 1 + 1) (o := 2) (by omega) (.int .i64 yl)).far (b := w.heap.size + 1) (o := 0) (by omega) (.slice a1 yn.length c1)).far (b := w.heap.size + 1) (o := 1) (by omega) (.bool yb)).far (b := w.heap.size + 1) (o := 2) (by omega) (.int .i64 yl))
  have BB := dHide ((((((B1.setCell (p := ⟨w.heap.size + 1 + 1, 0, none⟩) (by simp only; omega) (.slice a1 yn.length c1)).setCell (p := ⟨w.heap.size + 1 + 1, 1, none⟩) (by simp only; omega) (.bool yb)).setCell (p := ⟨w.heap.size + 1 + 1, 2, none⟩) (by simp only; omega) (.int .i64 yl)).setCell (p := ⟨w.heap.size + 1, 0, none⟩) (by simp only; omega) (.slice a1 yn.length c1)).setCell (p := ⟨w.heap.size + 1, 1, none⟩) (by simp only; omega) (.bool yb)).setCell (p := ⟨w.heap.size + 1, 2, none⟩) (by simp only; omega) (.int .i64 yl))
  have w0le : w.heap.size ≤ w0.heap.size := by omega
  clear X0 Y0 Z0 B0 C1 b1 O1 X1 Y1 Z1 B1
  go_wp2_with fail
  generalize ((((((w1.setCell ⟨w.heap.size + 1 + 1, 0, none⟩ (.slice a1 yn.length c1)).setCell ⟨w.heap.size + 1 + 1, 1, none⟩ (.bool yb)).setCell ⟨w.heap.size + 1 + 1, 2, none⟩ (.int .i64 yl)).setCell ⟨w.heap.size + 1, 0, none⟩ (.slice a1 yn.length c1)).setCell ⟨w.heap.size + 1, 1, none⟩ (.bool yb)).setCell ⟨w.heap.size + 1, 2, none⟩ (.int .i64 yl)) = V at *
  have q0 := ((dUnhide YY).2 0 _ rfl).1
  have q1 := ((dUnhide YY).2 1 _ rfl).1
  have q2 := ((dUnhide YY).2 2 _ rfl).1
  clear z0 z1 z2 f0 f1 f2 y0 y1 y2 p0 p1 p2 k0 k1 k2
  refine bodyPost_ret (v := .agg #[.slice a1 yn.length c1, .bool yb, .int .i64 yl]) (by simp [results, Tryd.results94, go_sem, q0, q1, q2]) rfl ⟨⟨_, _, rfl, (dUnhide OO).mono w0le⟩, dUnhide BB⟩
theorem makeR (n : Nat) (h : n ≤ 1073741824) (w : World) : (Instr.makeSlice 27 (.int .i64 (n : Int)) (.int .i64 (n : Int))).run Tryd.prog w = .ok (.slice (some ⟨w.heap.size, 0, none⟩) n n) (w.alloc (.cells (madeCells (Value.agg #[.slice none 0 0, .bool false, .int .i64 0]).cells (n * 3)) 37)) := by
  obtain ⟨i0, hi, hz0, hz1, hz2⟩ := info_parts (elemR).info
  have := run_make (P := Tryd.prog) w 27 37 i0 _ Tryd.underlying27 hi hz0 .i64 .i64 (n : Int) (n : Int) (by omega) (by omega) (by rw [hz2]; omega) (by omega)
  rw [hz1] at this
  simpa using this
/-- Zero. -/
def zeroEr : Nst Er := ⟨none, 0, [], false, 0⟩
theorem zeroEr_cells : ∀ (j : Nat) (u : Value), (erCl zeroEr)[j]? = some u → (Value.agg #[.slice none 0 0, .bool false, .int .i64 0]).cells[j]? = some u := by
  have e : (Value.agg #[.slice none 0 0, .bool false, .int .i64 0]).cells = #[.slice none 0 0, .bool false, .int .i64 0] := by kernel_rfl
  intro j u hu
  rw [e]
  have : (erCl zeroEr) = [.slice none 0 0, .bool false, .int .i64 0] := rfl
  rw [this] at hu
  simpa using hu
/-- The eras copied so far. -/
def CopK (wr : World) (b : Nat) (rs : List (Nst Er)) (k : Nat) (f : Nat → Nst Er) : Prop :=
  RowG 3 erCl wr b 0 rs.length f ∧ (∀ i (h : i < rs.length), i < k → (f i).m = rs[i].m ∧ OwnN wr (b + 1) (Sv Er.nodes (f i)) (f i).m.nodes) ∧ ∀ i j, i < k → j < k → i < j → (f i).m.nodes = [] ∨ (f j).m.nodes = [] ∨ blockOf (Sv Er.nodes (f i)) ≠ blockOf (Sv Er.nodes (f j))
theorem CopK.step {wr w2 : World} {b k : Nat} {rs : List (Nst Er)} {f : Nat → Nst Er} (h : CopK wr b rs k f) (hk : k < rs.length) (hb2 : Below wr.heap.size wr w2) (hbw : b < wr.heap.size) {qa : Option Addr} {qc : Nat} (ho : OwnN w2 wr.heap.size (.slice qa rs[k].m.nodes.length qc) rs[k].m.nodes) :
    CopK (((w2.setCell ⟨b, k * 3, none⟩ (.slice qa rs[k].m.nodes.length qc)).setCell ⟨b, k * 3 + 1, none⟩ (.bool rs[k].m.closed)).setCell ⟨b, k * 3 + 2, none⟩ (.int .i64 rs[k].m.last)) b rs (k + 1) (putG f k ⟨qa, qc, rs[k].m⟩) := by
  obtain ⟨h1, h2, h3⟩ := h
  have far : ∀ {base : Nat} {v : Value} {xs : List Int}, OwnN w2 base v xs → b < base → OwnN (((w2.setCell ⟨b, k * 3, none⟩ (.slice qa rs[k].m.nodes.length qc)).setCell ⟨b, k * 3 + 1, none⟩ (.bool rs[k].m.closed)).setCell ⟨b, k * 3 + 2, none⟩ (.int .i64 rs[k].m.last)) base v xs := fun {base v xs} q hb => ((q.far hb _).far hb _).far hb _
  refine ⟨?_, fun i hi hik => ?_, fun i j hi hj hij => ?_⟩
  · have r1 := (h1.below hb2).put erCl_len hk 0 (by decide) (.slice qa rs[k].m.nodes.length qc) ⟨qa, qc, ⟨rs[k].m.nodes, (f k).m.closed, (f k).m.last⟩⟩ rfl
    have r2 := r1.put erCl_len hk 1 (by decide) (.bool rs[k].m.closed) ⟨qa, qc, ⟨rs[k].m.nodes, rs[k].m.closed, (f k).m.last⟩⟩ (by rw [putG_same]; rfl)
    have r3 := r2.put erCl_len hk 2 (by decide) (.int .i64 rs[k].m.last) ⟨qa, qc, rs[k].m⟩ (by rw [putG_same]; rfl)
    simpa [putG_twice] using r3
  · by_cases e : i = k
    · subst e
      rw [putG_same]
      exact ⟨rfl, far (ho.mono (by omega)) (by omega)⟩
    · rw [putG_ne _ _ e]
      have q := h2 i hi (by omega)
      exact ⟨q.1, far (q.2.below hb2) (by omega)⟩
  · by_cases e : j = k
    · subst e
      rw [putG_same, putG_ne _ _ (by omega)]
      have q := h2 i (by omega) (by omega)
      rcases q.2.bs.lt with h | h
      · exact .inl h
      · rcases ho.ge with h' | h'
        · exact .inr (.inl h')
        · right; right
          have e1 : blockOf (Sv Er.nodes (⟨qa, qc, rs[j].m⟩ : Nst Er)) = blockOf (.slice qa rs[j].m.nodes.length qc) := rfl
          rw [e1]
          omega
    · rw [putG_ne _ _ e, putG_ne _ _ (by omega)]
      exact h3 i j (by omega) (by omega) hij
set_option maxHeartbeats 4000000 in
theorem toEraS_own (v : Value) (ms : List Er) (w : World) (hl : sizEraS ms ≤ 1048576) (hv : RdEraS v ms w) :
    Calls Tryd.prog 74 #[v] w fun r w' => (∃ u, r = .returned u ∧ OwEraS w.heap.size w'.heap.size u ms w') ∧ Below w.heap.size w w' := by
  obtain ⟨rs, rfl, hr, hn⟩ := hv
  have hlen : rs.length ≤ 1048576 := by unfold sizEraS at hl; rw [List.length_map] at hl; omega
  have HS : Hid (∀ k (hk : k < rs.length), rs[k].m.nodes.length ≤ 1048576) := fun k hk => by
    have h1 := sumN_mem (ms := rs.map Nst.m) (k := k) (by simpa using hk)
    rw [List.getElem_map] at h1
    unfold sizEraS at hl
    omega
  have HV := dHide fun W (hb : Below w.heap.size w W) => hr.below hb
  have HN := dHide fun W (hb : Below w.heap.size w W) k (hk : k < rs.length) => (hn _ (List.getElem_mem hk)).below hb
  obtain ⟨h0, a, cap, rfl, -, -⟩ := hr
  have hmk := makeR rs.length (by omega)
  clear hn hl
  go_enter Tryd.func74, Tryd.ntmps74
  go_wp2
  go_loopw [4] (fun x wr => ∃ (k : Nat) (f : Nat → Nst Er), x = .int .i64 (k : Int) ∧ k ≤ rs.length ∧ Hid (CopK wr w.heap.size rs k f) ∧ w.heap.size < wr.heap.size ∧ Below w.heap.size w wr) (fun x _ => rs.length - (intOf x).toNat)
  case atStart => exact ⟨0, fun _ => zeroEr, rfl, Nat.zero_le _, ⟨RowG.made w _ rs.length 37 zeroEr rfl zeroEr_cells, fun i h h' => by omega, fun i j h => by omega⟩, by simp, (Below.refl _ _).alloc (Nat.le_refl _) _⟩
  case round =>
    obtain ⟨k, f, rfl, hk, hz, hsz, hb⟩ := hrel
    by_cases hlt : (k : Int) < (rs.length : Int)
    · have hkl : k < rs.length := by omega
      obtain ⟨b, off, rfl, hc⟩ := (dUnhide HV wr hb).era hkl
      obtain ⟨c0, c1, c2⟩ := hc k hkl
      have CE := dHide fun W (hB : Below wr.heap.size wr W) => toEra_any rs[k] W (dUnhide HS k hkl) (dUnhide HN W (belowThen hb hB) k hkl)
      have hin : Hid (∀ (w2 : World) (qa : Option Addr) (qc : Nat), Below wr.heap.size wr w2 → OwnN w2 wr.heap.size (.slice qa rs[k].m.nodes.length qc) rs[k].m.nodes → CopK (((w2.setCell ⟨w.heap.size, k * 3, none⟩ (.slice qa rs[k].m.nodes.length qc)).setCell ⟨w.heap.size, k * 3 + 1, none⟩ (.bool rs[k].m.closed)).setCell ⟨w.heap.size, k * 3 + 2, none⟩ (.int .i64 rs[k].m.last)) w.heap.size rs (k + 1) (putG f k ⟨qa, qc, rs[k].m⟩)) := fun w2 qa qc hB ho => (dUnhide hz).step hkl hB hsz ho
      have hrow : Hid (∀ W, Below wr.heap.size wr W → RowG 3 erCl W w.heap.size 0 rs.length f) := fun W hB => (dUnhide hz).1.below hB
      generalize rs[k] = y at *
      obtain ⟨ya, yc, yn, yb, yl⟩ := y
      simp only at *
      clear hc hz
      go_wp2_with fail
      refine (dUnhide CE _ (Below.refl _ _)).mono ?_
      rintro r w2 ⟨⟨qa, qc, rfl, ho⟩, b2⟩
      have Z2 := dUnhide hrow w2 b2
      obtain ⟨z0, f0⟩ := Z2 k hkl 0 _ rfl
      obtain ⟨z1, f1⟩ := Z2 k hkl 1 _ rfl
      obtain ⟨z2, f2⟩ := Z2 k hkl 2 _ rfl
      have Z3 := dHide (dUnhide hin w2 qa qc b2 ho)
      simp only [Nat.zero_add, Nat.add_zero] at z0 z1 z2 f0 f1 f2
      have hb2 := belowThen hb b2
      have hb3 := dHide (((hb2.setCell (p := ⟨w.heap.size, k * 3, none⟩) (Nat.le_refl _) (.slice qa yn.length qc)).setCell (p := ⟨w.heap.size, k * 3 + 1, none⟩) (Nat.le_refl _) (.bool yb)).setCell (p := ⟨w.heap.size, k * 3 + 2, none⟩) (Nat.le_refl _) (.int .i64 yl))
      have hs2 : w.heap.size < (((w2.setCell ⟨w.heap.size, k * 3, none⟩ (.slice qa yn.length qc)).setCell ⟨w.heap.size, k * 3 + 1, none⟩ (.bool yb)).setCell ⟨w.heap.size, k * 3 + 2, none⟩ (.int .i64 yl)).heap.size := by simpa using Nat.lt_of_lt_of_le hsz b2.size
      clear CE b2 c0 c1 c2 hb hrow Z2 hb2 hin ho
      go_wp2
      go_roundw
      case rel => exact ⟨k + 1, _, by go_num, by omega, Z3, hs2, dUnhide hb3⟩
      case measure => simp [intOf]; omega
    · have O : Hid (OwEraS w.heap.size wr.heap.size (.slice (some ⟨w.heap.size, 0, none⟩) rs.length rs.length) (rs.map Nst.m) wr) := by
        obtain ⟨h1, h2, h3⟩ := dUnhide hz
        have q := OwK.build (sub := Er.nodes) (lo := w.heap.size) (hi := wr.heap.size) (cap := rs.length) h1 (Nat.le_refl _) (.inr hsz) (by omega) (fun i hi => by
          have q := (h2 i hi (by omega)).2
          exact ⟨q.mono (by omega), q.bs.lt⟩) (fun i j hi hj hij => by
          rcases Nat.lt_or_gt_of_ne hij with h | h
          · exact h3 i j (by omega) (by omega) h
          · rcases h3 j i (by omega) (by omega) h with h | h | h
            · exact .inr (.inl h)
            · exact .inl h
            · exact .inr (.inr (Ne.symm h))) (fun i hi => by
          rcases (h2 i hi (by omega)).2.ge with h | h
          · exact .inl h
          · exact .inr (by omega))
        have hm : ((List.range rs.length).map fun i => (f i).m) = rs.map Nst.m := range_map_m (ms := rs.map Nst.m) (by simp) (fun i hi => by
          have hi' : i < rs.length := by simpa using hi
          rw [List.getElem_map]
          exact (h2 i hi' (by omega)).1)
        rw [hm] at q
        exact q
      clear hz HV HN HS
      go_wp2
      go_ret
      exact ⟨⟨_, rfl, dUnhide O⟩, hb⟩
theorem OwK.far {α : Type} {sz : Nat} {sub : α → List Int} {cl : Nst α → List Value} {lo hi b o : Nat} {v : Value} {ms : List α} {w : World} (h : OwK sz sub cl lo hi v ms w) (hb : b < lo) (u : Value) : OwK sz sub cl lo hi v ms (w.setCell ⟨b, o, none⟩ u) := by
  obtain ⟨rs, e1, e2, e3, e4, e5⟩ := h
  have hW : ∀ k, lo ≤ k → k < hi → (w.setCell ⟨b, o, none⟩ u).heap[k]? = w.heap[k]? := fun k h1 h2 => Below.heap_setCell _ _ _ k (fun e => by simp at e; omega)
  exact ⟨rs, e1, e2.sitsR e3 hW, e3, fun p hp => ⟨(e4 p hp).1.far hb _, (e4 p hp).2⟩, e5⟩
set_option maxHeartbeats 4000000 in
theorem toRegister_ (v : Value) (m : Rg) (w : World) (hl : sizRegister m ≤ 1048576) (h : RdRegister v m w) :
    Calls Tryd.prog 29 #[v] w fun e w' => ∃ u, e = .returned u ∧ Sits (OwRegister w.heap.size w'.heap.size u m) w.heap.size w'.heap.size w' ∧ Below w.heap.size w w' := by
  have ba : ∀ (w : World) o, Below w.heap.size w (w.alloc o) := fun w o => (Below.refl _ _).alloc (Nat.le_refl _) o
  obtain ⟨sv, rfl, h⟩ := h
  have C1 := dHide fun W (hb : Below w.heap.size w W) => toEraS_own sv m.eras W hl (RdK.below h hb)
  obtain ⟨pa, pc, rfl, -⟩ := formK h
  have EX : Hid (∀ (W : World) (u : Value), OwEraS w.heap.size W.heap.size u m.eras W → Sits (OwRegister w.heap.size W.heap.size (.agg #[u, .int .i64 m.trim]) m) w.heap.size W.heap.size W) := fun W u o => OwRegister.sits ⟨u, rfl, o⟩ (Nat.le_refl _)
  generalize m.trim = yl at *
  generalize m.eras = ms at *
  have X0 := (Bx.new w [.slice pa ms.length pc, .int .i64 yl] 50).below (belowThen (ba _ (.cells #[.slice none 0 0, .int .i64 0] 29)) (ba _ (.cells #[.slice none 0 0, .int .i64 0] 29)))
  have Y0 := (BxZ.new (B := w.heap.size) (w.alloc (.cells #[.slice pa ms.length pc, .int .i64 yl] 50)) [.slice none 0 0, .int .i64 0] 29 (by simp)).below (ba _ (.cells #[.slice none 0 0, .int .i64 0] 29))
  have Z0 := BxZ.new (B := w.heap.size) ((w.alloc (.cells #[.slice pa ms.length pc, .int .i64 yl] 50)).alloc (.cells #[.slice none 0 0, .int .i64 0] 29)) [.slice none 0 0, .int .i64 0] 29 (by simp <;> omega)
  have B0 := belowThen (belowThen (ba w (.cells #[.slice pa ms.length pc, .int .i64 yl] 50)) (ba _ (.cells #[.slice none 0 0, .int .i64 0] 29))) (ba _ (.cells #[.slice none 0 0, .int .i64 0] 29))
  have e1 : (w.alloc (.cells #[.slice pa ms.length pc, .int .i64 yl] 50)).heap.size = w.heap.size + 1 := by simp
  have e2 : ((w.alloc (.cells #[.slice pa ms.length pc, .int .i64 yl] 50)).alloc (.cells #[.slice none 0 0, .int .i64 0] 29)).heap.size = w.heap.size + 1 + 1 := by simp
  rw [e1] at Y0
  rw [e2] at Z0
  clear e1 e2 h hl
  go_enter Tryd.func29, Tryd.ntmps29
  go_wp2_with fail
  generalize ((w.alloc (.cells #[.slice pa ms.length pc, .int .i64 yl] 50)).alloc (.cells #[.slice none 0 0, .int .i64 0] 29)).alloc (.cells #[.slice none 0 0, .int .i64 0] 29) = w0 at *
  have hlt := Z0.lt
  refine (dUnhide C1 _ B0).mono ?_
  rintro r w1 ⟨⟨u1, rfl, O1⟩, b1⟩
  have hs1 := b1.size
  obtain ⟨a1, c1, rfl, -⟩ := formK (OwK.rd O1)
  have B1 := belowThen B0 b1
  have X1 := X0.below b1
  have Y1 := Y0.below b1
  have Z1 := Z0.below b1
  have k0 := X1 0 _ rfl
  have k1 := X1 1 _ rfl
  obtain ⟨z0, f0⟩ := Z1.2 0 _ rfl
  obtain ⟨z1, f1⟩ := Z1.2 1 _ rfl
  obtain ⟨y0, p0⟩ := Y1.2 0 _ rfl
  obtain ⟨y1, p1⟩ := Y1.2 1 _ rfl
  have YY := dHide ((((Y1.far (b' := w.heap.size + 1 + 1) (o := 0) (by omega) (.slice a1 ms.length c1)).far (b' := w.heap.size + 1 + 1) (o := 1) (by omega) (.int .i64 yl)).put 0 (.slice a1 ms.length c1)).put 1 (.int .i64 yl))
  have OO : Hid (OwEraS w0.heap.size w1.heap.size (.slice a1 ms.length c1) ms ((((w1.setCell ⟨w.heap.size + 1 + 1, 0, none⟩ (.slice a1 ms.length c1)).setCell ⟨w.heap.size + 1 + 1, 1, none⟩ (.int .i64 yl)).setCell ⟨w.heap.size + 1, 0, none⟩ (.slice a1 ms.length c1)).setCell ⟨w.heap.size + 1, 1, none⟩ (.int .i64 yl))) := OwK.far (OwK.far (OwK.far (OwK.far O1 (b := w.heap.size + 1 + 1) (o := 0) (by omega) (.slice a1 ms.length c1)) (b := w.heap.size + 1 + 1) (o := 1) (by omega) (.int .i64 yl)) (b := w.heap.size + 1) (o := 0) (by omega) (.slice a1 ms.length c1)) (b := w.heap.size + 1) (o := 1) (by omega) (.int .i64 yl)
  have BB := dHide ((((B1.setCell (p := ⟨w.heap.size + 1 + 1, 0, none⟩) (by simp only; omega) (.slice a1 ms.length c1)).setCell (p := ⟨w.heap.size + 1 + 1, 1, none⟩) (by simp only; omega) (.int .i64 yl)).setCell (p := ⟨w.heap.size + 1, 0, none⟩) (by simp only; omega) (.slice a1 ms.length c1)).setCell (p := ⟨w.heap.size + 1, 1, none⟩) (by simp only; omega) (.int .i64 yl))
  have w0le : w.heap.size ≤ w0.heap.size := by omega
  have hV : w1.heap.size = ((((w1.setCell ⟨w.heap.size + 1 + 1, 0, none⟩ (.slice a1 ms.length c1)).setCell ⟨w.heap.size + 1 + 1, 1, none⟩ (.int .i64 yl)).setCell ⟨w.heap.size + 1, 0, none⟩ (.slice a1 ms.length c1)).setCell ⟨w.heap.size + 1, 1, none⟩ (.int .i64 yl)).heap.size := by simp
  clear X0 Y0 Z0 B0 C1 b1 O1 X1 Y1 Z1 B1
  go_wp2_with fail
  generalize ((((w1.setCell ⟨w.heap.size + 1 + 1, 0, none⟩ (.slice a1 ms.length c1)).setCell ⟨w.heap.size + 1 + 1, 1, none⟩ (.int .i64 yl)).setCell ⟨w.heap.size + 1, 0, none⟩ (.slice a1 ms.length c1)).setCell ⟨w.heap.size + 1, 1, none⟩ (.int .i64 yl)) = V at *
  have q0 := ((dUnhide YY).2 0 _ rfl).1
  have q1 := ((dUnhide YY).2 1 _ rfl).1
  clear z0 z1 f0 f1 y0 y1 p0 p1 k0 k1
  refine bodyPost_ret (v := .agg #[.slice a1 ms.length c1, .int .i64 yl]) (by simp [results, Tryd.results29, go_sem, q0, q1]) rfl ⟨_, rfl, dUnhide EX V _ ((dUnhide OO).wide w0le (by omega)), dUnhide BB⟩
end Go.Proofs.YtognmmmplmideaaDoor
namespace Go.Proofs.YtognmmmplmideaaDoor
open Go.ChangeShapes Go.WideShapes Go.ChangeAt Go.RowKit
set_option linter.unusedVariables false
set_option linter.unusedSimpArgs false
set_option maxRecDepth 100000

theorem OwN.wr {lo hi lo' hi' : Nat} {v : Value} {m : List Int} {w w' : World} (h : OwN lo hi v m w) (hw : Wr lo' hi' w w') (hne : m = [] ∨ blockOf v < lo' ∨ hi' ≤ blockOf v) : OwN lo hi v m w' := by
  have hlt := h.1.bs.lt
  obtain ⟨⟨h0, a, cap, rfl, hcap, h⟩, hl⟩ := h
  refine ⟨⟨h0, a, cap, rfl, hcap, ?_⟩, hl⟩
  rcases hne with hne | hne
  · exact .inl hne
  · rcases h with h | ⟨b', off, rfl, hb, hc⟩
    · exact .inl h
    · rcases hlt with hlt | hlt
      · exact .inl hlt
      · have e := hw.block b' hlt hne
        exact .inr ⟨b', off, rfl, hb, fun i hi => ⟨(World.cell?_of_block (a := ⟨b', off + i, none⟩) e).trans (hc i hi).1, (World.frozen?_of_block (a := ⟨b', off + i, none⟩) e).trans (hc i hi).2⟩⟩
theorem OwN.narrow {lo hi : Nat} {v : Value} {m : List Int} {w : World} (h : OwN lo hi v m w) (hm : m ≠ []) : OwN (blockOf v) (blockOf v + 1) v m w ∧ lo ≤ blockOf v ∧ blockOf v < hi := by
  have h1 := h.1.ge.resolve_left hm
  have h2 := h.2.resolve_left hm
  refine ⟨⟨?_, .inr (by omega)⟩, h1, h2⟩
  obtain ⟨⟨h0, a, cap, rfl, hcap, h⟩, -⟩ := h
  refine ⟨h0, a, cap, rfl, hcap, ?_⟩
  rcases h with h | ⟨b', off, rfl, hb, hc⟩
  · exact .inl h
  · exact .inr ⟨b', off, rfl, Nat.le_refl _, hc⟩
theorem OwN.wide {lo hi lo' hi' : Nat} {v : Value} {m : List Int} {w : World} (h : OwN lo hi v m w) (h1 : lo' ≤ lo) (h2 : hi ≤ hi') : OwN lo' hi' v m w := ⟨h.1.mono h1, by rcases h.2 with h | h; exact .inl h; exact .inr (by omega)⟩
/-- Marks go into the list's own block alone. -/
theorem markN_in (lo hi : Nat) (v : Value) (m : List Int) (k0 : Nat) (w : World) (hk : k0 ≤ 4294967296) (hl : m.length ≤ 4294967296) (hf : hi ≤ w.heap.size) (h : OwN lo hi v m w) :
    Calls Tryd.prog 36 #[v, .int .i64 (k0 : Int)] w fun e w' => e = .returned (.int .i64 ((k0 + m.length : Nat) : Int)) ∧ OwN lo hi v (marksN k0 m.length) w' ∧ (∃ b1 b2, Wr b1 b2 w w' ∧ ((m = [] ∧ b1 = 0 ∧ b2 = 0) ∨ (m ≠ [] ∧ b1 = blockOf v ∧ b2 = blockOf v + 1))) ∧ Wr lo hi w w' := by
  by_cases hm : m = []
  · subst hm
    refine (markN 0 0 v [] k0 w hk hl (OwN.sits ⟨h.1.mono (Nat.zero_le _), .inl rfl⟩ (Nat.zero_le _))).mono ?_
    rintro e w' ⟨rfl, o, d⟩
    have q : OwN lo hi v [] w' := h.wr d (.inl rfl)
    exact ⟨rfl, q, ⟨0, 0, d, .inl ⟨rfl, rfl, rfl⟩⟩, ⟨d.os, d.tape, d.output, d.size, fun k hk _ => d.block k hk (.inr (Nat.zero_le _))⟩⟩
  · obtain ⟨hn, h1, h2⟩ := h.narrow hm
    refine (markN _ _ v m k0 w hk hl (hn.sits (by omega))).mono ?_
    rintro e w' ⟨rfl, o, d⟩
    exact ⟨rfl, o.now.wide h1 (by omega), ⟨_, _, d, .inr ⟨hm, rfl, rfl⟩⟩, d.wider h1 (by omega)⟩
/-- Eras of which the first k are marked. -/
def mkF (k0 : Nat) (rs : List (Nst Er)) (k : Nat) (i : Nat) : Nst Er :=
  if i < k then ⟨(rs.getD i zeroEr).a, (rs.getD i zeroEr).c, mkEr (k0 + cntEraS ((rs.map Nst.m).take i)) (rs.getD i zeroEr).m⟩ else rs.getD i zeroEr
theorem mkF_nodes (k0 : Nat) (rs : List (Nst Er)) (k i : Nat) : (mkF k0 rs k i).m.nodes.length = (rs.getD i zeroEr).m.nodes.length ∧ Sv Er.nodes (mkF k0 rs k i) = Sv Er.nodes (rs.getD i zeroEr) := by
  unfold mkF
  split
  · have e : (mkEr (k0 + cntEraS ((rs.map Nst.m).take i)) (rs.getD i zeroEr).m).nodes.length = (rs.getD i zeroEr).m.nodes.length := marksN_len _ _
    refine ⟨e, ?_⟩
    unfold Sv
    simp only [e]
  · exact ⟨rfl, rfl⟩
theorem nil_of_len {l l' : List Int} (h : l.length = l'.length) : l = [] ↔ l' = [] := by
  rw [← List.length_eq_zero_iff, ← List.length_eq_zero_iff, h]
theorem getD_lt {α : Type} {l : List α} {i : Nat} (z : α) (h : i < l.length) : l.getD i z = l[i] := by
  rw [List.getD_eq_getElem?_getD, List.getElem?_eq_getElem h]
  rfl
theorem RowG.congr {β : Type} {sz : Nat} {cl : β → List Value} {w : World} {b off n : Nat} {f f' : Nat → β} (h : RowG sz cl w b off n f) (hf : ∀ i, i < n → f' i = f i) : RowG sz cl w b off n f' := fun i hi j u hu => h i hi j u (by rw [← hf i hi]; exact hu)
theorem Wr.setW {lo hi b o : Nat} {w wr : World} (h : Wr lo hi w wr) (h1 : lo ≤ b) (h2 : b < hi) (u : Value) : Wr lo hi w (wr.setCell ⟨b, o, none⟩ u) :=
  h.trans ⟨rfl, rfl, rfl, by simp, fun k hk hn => Below.heap_setCell _ _ _ k (fun e => by simp at e; omega)⟩
theorem OwN.putW {lo hi b o : Nat} {v : Value} {m : List Int} {w : World} (h : OwN lo hi v m w) (hne : m = [] ∨ blockOf v ≠ b) (u : Value) : OwN lo hi v m (w.setCell ⟨b, o, none⟩ u) :=
  h.wr (lo' := b) (hi' := b + 1) ⟨rfl, rfl, rfl, by simp, fun k hk hn => Below.heap_setCell _ _ _ k (fun e => by simp at e; omega)⟩ (by rcases hne with h | h; exact .inl h; exact .inr (by omega))
/-- The state of marking. -/
def MarkK (lo hi k0 : Nat) (w wr : World) (b off : Nat) (rs : List (Nst Er)) (k : Nat) : Prop :=
  RowG 3 erCl wr b off rs.length (mkF k0 rs k) ∧ (∀ i, i < rs.length → OwN lo hi (Sv Er.nodes (mkF k0 rs k i)) (mkF k0 rs k i).m.nodes wr) ∧ Wr lo hi w wr ∧ hi ≤ wr.heap.size
/-- One era is marked. -/
theorem MarkK.step {lo hi k0 : Nat} {w wr w2 : World} {b off k : Nat} {rs : List (Nst Er)} {v : Value} (h : MarkK lo hi k0 w wr b off rs k) (hk : k < rs.length) (hb1 : lo ≤ b) (hb2 : b < hi) (hA : Apart Er.nodes v rs) (hv : blockOf v = b)
    (hO : OwN lo hi (Sv Er.nodes rs[k]) (marksN (k0 + cntEraS ((rs.map Nst.m).take k)) rs[k].m.nodes.length) w2) (b1 b2 : Nat) (hW : Wr b1 b2 wr w2) (hd : (rs[k].m.nodes = [] ∧ b1 = 0 ∧ b2 = 0) ∨ (rs[k].m.nodes ≠ [] ∧ b1 = blockOf (Sv Er.nodes rs[k]) ∧ b2 = blockOf (Sv Er.nodes rs[k]) + 1)) (hW' : Wr lo hi wr w2) :
    RowG 3 erCl w2 b off rs.length (mkF k0 rs k) ∧ MarkK lo hi k0 w ((w2.setCell ⟨b, off + k * 3 + 1, none⟩ (.bool ((k0 + cntEraS ((rs.map Nst.m).take k) + rs[k].m.nodes.length) % 3 == 0))).setCell ⟨b, off + k * 3 + 2, none⟩ (.int .i64 ((k0 + cntEraS ((rs.map Nst.m).take k) + rs[k].m.nodes.length + 1 : Nat) : Int))) b off rs (k + 1) := by
  obtain ⟨h1, h2, h3, h4⟩ := h
  have ek : mkF k0 rs k k = rs[k] := by unfold mkF; rw [if_neg (by omega), getD_lt _ hk]
  have ek1 : mkF k0 rs (k + 1) k = ⟨rs[k].a, rs[k].c, mkEr (k0 + cntEraS ((rs.map Nst.m).take k)) rs[k].m⟩ := by unfold mkF; rw [if_pos (by omega), getD_lt _ hk]
  have ei : ∀ i, i ≠ k → mkF k0 rs (k + 1) i = mkF k0 rs k i := fun i hi => by
    unfold mkF
    by_cases e : i < k
    · rw [if_pos (by omega), if_pos e]
    · rw [if_neg (by omega), if_neg e]
  have hR : RowG 3 erCl w2 b off rs.length (mkF k0 rs k) := h1.wr hW (by
    rcases hd with ⟨-, rfl, rfl⟩ | ⟨hn, rfl, rfl⟩
    · exact .inr (Nat.zero_le _)
    · have := (hA.2 k hk).resolve_left hn
      omega)
  refine ⟨hR, ?_, fun i hil => ?_, ?_, ?_⟩
  · have r1 := hR.put erCl_len hk 1 (by decide) (.bool ((k0 + cntEraS ((rs.map Nst.m).take k) + rs[k].m.nodes.length) % 3 == 0)) ⟨rs[k].a, rs[k].c, ⟨marksN (k0 + cntEraS ((rs.map Nst.m).take k)) rs[k].m.nodes.length, _, rs[k].m.last⟩⟩ (by rw [ek]; unfold erCl Sv; simp only [marksN_len]; rfl)
    have r2 := r1.put erCl_len hk 2 (by decide) (.int .i64 ((k0 + cntEraS ((rs.map Nst.m).take k) + rs[k].m.nodes.length + 1 : Nat) : Int)) ⟨rs[k].a, rs[k].c, mkEr (k0 + cntEraS ((rs.map Nst.m).take k)) rs[k].m⟩ (by rw [putG_same]; rfl)
    rw [putG_twice] at r2
    refine r2.congr fun i hi => ?_
    by_cases e : i = k
    · subst e
      rw [putG_same, ek1]
    · rw [putG_ne _ _ e, ei i e]
  · have far : ∀ {v : Value} {xs : List Int} (u u' : Value), OwN lo hi v xs w2 → (xs = [] ∨ blockOf v ≠ b) → OwN lo hi v xs ((w2.setCell ⟨b, off + k * 3 + 1, none⟩ u).setCell ⟨b, off + k * 3 + 2, none⟩ u') := fun {v xs} u u' q hb => (q.putW hb _).putW hb _
    by_cases e : i = k
    · subst e
      have eS := (mkF_nodes k0 rs (i + 1) i).2
      rw [getD_lt _ hk] at eS
      rw [eS, ek1]
      refine far _ _ hO ?_
      rcases hA.2 i hk with h | h
      · left
        exact (nil_of_len (marksN_len _ _)).2 h
      · right
        rw [← hv]; exact h
    · rw [ei i e]
      obtain ⟨eN, eS⟩ := mkF_nodes k0 rs k i
      rw [getD_lt _ hil] at eN eS
      have q := h2 i hil
      have q1 : OwN lo hi (Sv Er.nodes (mkF k0 rs k i)) (mkF k0 rs k i).m.nodes w2 := q.wr hW (by
        rcases hd with ⟨-, rfl, rfl⟩ | ⟨hn, rfl, rfl⟩
        · exact .inr (.inr (Nat.zero_le _))
        · rcases hA.1 i k hil hk e with h | h | h
          · exact .inl ((nil_of_len eN).2 h)
          · exact absurd h hn
          · rw [eS]
            exact .inr (by omega))
      refine far _ _ q1 ?_
      rcases hA.2 i hil with h | h
      · exact .inl ((nil_of_len eN).2 h)
      · right
        rw [eS, ← hv]; exact h
  · exact ((h3.trans hW').setW hb1 hb2 _).setW hb1 hb2 _
  · have := hW'.size
    simp
    omega
theorem mod3_eq (n : Nat) : ((n : Int) % 3 == 0) = (n % 3 == 0) := by
  by_cases h : n % 3 = 0
  · have h' : (n : Int) % 3 = 0 := by omega
    rw [h, h']; rfl
  · have h' : ¬ (n : Int) % 3 = 0 := by omega
    rw [beq_eq_false_iff_ne.2 h, beq_eq_false_iff_ne.2 h']
set_option maxHeartbeats 4000000 in
theorem markEraS_ (lo hi : Nat) (v : Value) (m : List Er) (k0 : Nat) (w : World) (hk : k0 ≤ 536870912) (hl : cntEraS m ≤ 536870912) (h : Sits (OwEraS lo hi v m) lo hi w) :
    Calls Tryd.prog 76 #[v, .int .i64 (k0 : Int)] w fun e w' => e = .returned (.int .i64 ((k0 + cntEraS m : Nat) : Int)) ∧ Sits (OwEraS lo hi v (mkEraS k0 m)) lo hi w' ∧ Wr lo hi w w' := by
  obtain ⟨rs, rfl, hO, hB, hN, hA⟩ := h.now
  have hfit := h.fit
  have hlen : rs.length ≤ 268435456 := by unfold cntEraS at hl; rw [List.length_map] at hl; omega
  obtain ⟨-, a, cap, rfl, hcap, -⟩ := hO.rw
  rcases Nat.eq_zero_or_pos rs.length with h0 | h0
  · have hm : rs = [] := List.length_eq_zero_iff.1 h0
    subst hm
    have e1 : mkEraS k0 (List.map Nst.m ([] : List (Nst Er))) = [] := rfl
    have e2 : k0 + cntEraS (List.map Nst.m ([] : List (Nst Er))) = k0 := rfl
    rw [e1, e2]
    have h' : Sits (OwEraS lo hi (.slice a ([] : List (Nst Er)).length cap) []) lo hi w := h
    clear hl hO hB e1 e2 hN hA h
    go_enter Tryd.func76, Tryd.ntmps76
    go_wp2
    go_rounds 1
    go_ret
    exact ⟨rfl, h', Wr.refl _ _ _⟩
  · obtain ⟨b, off, rfl, hb1, Z0⟩ := hO.rowG h0 zeroEr
    have hb2 : b < hi := by
      rcases hB with h | h
      · rw [h] at h0; simp at h0
      · exact h
    have HS : Hid (∀ k (hk : k < rs.length), rs[k].m.nodes.length ≤ 536870912 ∧ cntEraS ((rs.map Nst.m).take (k + 1)) = cntEraS ((rs.map Nst.m).take k) + rs[k].m.nodes.length + 2 ∧ cntEraS ((rs.map Nst.m).take (k + 1)) ≤ 536870912) := fun k hk => by
      have h1 := cntEraS_take (rs.map Nst.m) k (by simpa using hk)
      have h2 := cntEraS_le' (rs.map Nst.m) (k + 1)
      rw [List.getElem_map] at h1
      exact ⟨by omega, h1, by omega⟩
    have M0 : MarkK lo hi k0 w w b off rs 0 := ⟨Z0.congr fun i hi => by unfold mkF; rw [if_neg (by omega)], fun i hi => by
      have e : mkF k0 rs 0 i = rs[i] := by unfold mkF; rw [if_neg (by omega), getD_lt _ hi]
      rw [e]
      exact hN _ (List.getElem_mem hi), Wr.refl _ _ _, hfit⟩
    have FIN : Hid (∀ W : World, MarkK lo hi k0 w W b off rs rs.length → Sits (OwEraS lo hi (.slice (some ⟨b, off, none⟩) rs.length cap) (mkEraS k0 (rs.map Nst.m))) lo hi W) := fun W ⟨h1, h2, h3, h4⟩ => by
      have q := OwK.build (sub := Er.nodes) (lo := lo) (hi := hi) (cap := cap) h1 hb1 (.inr hb2) hcap h2 (fun i j hi hj hij => by
        obtain ⟨eN, eS⟩ := mkF_nodes k0 rs rs.length i
        obtain ⟨eN', eS'⟩ := mkF_nodes k0 rs rs.length j
        rw [getD_lt _ hi] at eN eS
        rw [getD_lt _ hj] at eN' eS'
        rw [eS, eS', nil_of_len eN, nil_of_len eN']
        exact hA.1 i j hi hj hij) (fun i hi => by
        obtain ⟨eN, eS⟩ := mkF_nodes k0 rs rs.length i
        rw [getD_lt _ hi] at eN eS
        rw [eS, nil_of_len eN]
        exact hA.2 i hi)
      rw [range_map_m (ms := mkEraS k0 (rs.map Nst.m)) (by rw [mkEraS_len, List.length_map]) (fun i hi => by
        have hi' : i < rs.length := by rw [mkEraS_len, List.length_map] at hi; exact hi
        rw [mkEraS_at k0 (rs.map Nst.m) i (by simpa using hi'), List.getElem_map]
        unfold mkF
        rw [if_pos hi', getD_lt _ hi'])] at q
      exact OwK.sits q h4
    have HA := dHide hA
    have hcn : Hid (cntEraS ((rs.map Nst.m).take rs.length) = cntEraS (rs.map Nst.m)) := by rw [Hid, List.take_of_length_le (by simp)]
    have HM0 := dHide M0
    clear h hO hB Z0 hN hA M0 hl
    go_enter Tryd.func76, Tryd.ntmps76
    go_wp2
    go_loopw [5, 1] (fun x y wr => ∃ (k K : Nat), x = .int .i64 (k : Int) ∧ y = .int .i64 (K : Int) ∧ k ≤ rs.length ∧ K ≤ 1073741824 ∧ Hid (K = k0 + cntEraS ((rs.map Nst.m).take k)) ∧ Hid (MarkK lo hi k0 w wr b off rs k)) (fun x _ _ => rs.length - (intOf x).toNat)
    case atStart => exact ⟨0, k0, rfl, rfl, Nat.zero_le _, by omega, rfl, dUnhide HM0⟩
    case round =>
      obtain ⟨k, K, rfl, rfl, hkk, hKb, hK, hM⟩ := hrel
      by_cases hlt : (k : Int) < (rs.length : Int)
      · have hkl : k < rs.length := by omega
        obtain ⟨s1, s2, s3⟩ := dUnhide HS k hkl
        have ek : mkF k0 rs k k = rs[k] := by unfold mkF; rw [if_neg (by omega), getD_lt _ hkl]
        obtain ⟨z0, f0⟩ := (dUnhide hM).1 k hkl 0 _ rfl
        have ek' := ek
        have CT := dHide (markN_in lo hi (Sv Er.nodes rs[k]) rs[k].m.nodes K wr (by omega) (by omega) (dUnhide hM).2.2.2 (by have := (dUnhide hM).2.1 k hkl; rw [ek] at this; exact this))
        have ST : Hid (∀ w2, OwN lo hi (Sv Er.nodes rs[k]) (marksN K rs[k].m.nodes.length) w2 → ∀ b1 b2, Wr b1 b2 wr w2 → ((rs[k].m.nodes = [] ∧ b1 = 0 ∧ b2 = 0) ∨ (rs[k].m.nodes ≠ [] ∧ b1 = blockOf (Sv Er.nodes rs[k]) ∧ b2 = blockOf (Sv Er.nodes rs[k]) + 1)) → Wr lo hi wr w2 →
            RowG 3 erCl w2 b off rs.length (mkF k0 rs k) ∧ MarkK lo hi k0 w ((w2.setCell ⟨b, off + k * 3 + 1, none⟩ (.bool ((K + rs[k].m.nodes.length) % 3 == 0))).setCell ⟨b, off + k * 3 + 2, none⟩ (.int .i64 ((K + rs[k].m.nodes.length + 1 : Nat) : Int))) b off rs (k + 1)) := fun w2 hO b1 b2 hW hd hW' => by
          have hK' := dUnhide hK
          subst hK'
          exact (dUnhide hM).step hkl hb1 hb2 (dUnhide HA) rfl hO b1 b2 hW hd hW'
        have hK2 : Hid (K + rs[k].m.nodes.length + 2 = k0 + cntEraS ((rs.map Nst.m).take (k + 1))) := by rw [Hid, s2, dUnhide hK]; omega
        have hKb2 : K + rs[k].m.nodes.length + 2 ≤ 1073741824 := by rw [dUnhide hK2]; omega
        unfold Sv at CT ST
        simp only [ek, Sv, Nat.add_zero] at z0 f0
        have em : (((K + rs[k].m.nodes.length : Nat) : Int) % 3 == 0) = ((K + rs[k].m.nodes.length) % 3 == 0) := mod3_eq _
        generalize hy : rs[k] = y at *
        obtain ⟨ya, yc, yn, yb, yl⟩ := y
        simp only at *
        clear hM s1 s2 s3
        go_wp2_with fail
        refine (dUnhide CT).mono ?_
        rintro r w2 ⟨rfl, o2, ⟨b1, b2, d1, hd1⟩, d2⟩
        obtain ⟨R2, M2⟩ := dUnhide ST w2 o2 b1 b2 d1 hd1 d2
        obtain ⟨z1, f1⟩ := R2 k hkl 1 _ rfl
        obtain ⟨z2, f2⟩ := R2 k hkl 2 _ rfl
        have HM2 := dHide M2
        clear CT ST o2 d1 hd1 d2 z0 f0 R2 M2
        rw [← em] at HM2
        have e3 : ((K + yn.length + 1 : Nat) : Int) = ((K + yn.length : Nat) : Int) + 1 := by omega
        have e4 : ((K + yn.length + 2 : Nat) : Int) = ((K + yn.length : Nat) : Int) + 1 + 1 := by omega
        rw [e3] at HM2
        have G := dHide (show ∃ (k' K' : Nat), (Value.int .i64 ((k : Int) + 1)) = .int .i64 (k' : Int) ∧ (Value.int .i64 (((K + yn.length : Nat) : Int) + 1 + 1)) = .int .i64 (K' : Int) ∧ k' ≤ rs.length ∧ K' ≤ 1073741824 ∧ Hid (K' = k0 + cntEraS ((rs.map Nst.m).take k')) ∧ k' = k + 1 from ⟨k + 1, K + yn.length + 2, by rw [Int.natCast_add]; rfl, by rw [e4], by omega, hKb2, hK2, rfl⟩)
        have hq : (K + yn.length : Nat) ≤ 1073741824 := by omega
        generalize (K + yn.length : Nat) = q at *
        clear e3 e4 em hK2 hKb2
        go_wp2
        go_roundw
        case rel =>
          obtain ⟨k', K', g1, g2, g3, g4, g5, rfl⟩ := dUnhide G
          exact ⟨k + 1, K', by go_num, by first | exact g2 | (rw [← g2]; go_num), g3, g4, g5, dUnhide HM2⟩
        case measure => simp [intOf]; omega
      · have e1 : k = rs.length := by omega
        subst e1
        have e2 : Hid ((K : Int) = ((k0 + cntEraS (rs.map Nst.m) : Nat) : Int)) := by rw [Hid, dUnhide hK, dUnhide hcn]
        have O := dHide (dUnhide FIN wr (dUnhide hM))
        have hw := dHide (dUnhide hM).2.2.1
        clear hM hK FIN HM0 hcn
        go_wp2
        go_ret
        exact ⟨by have e := dUnhide e2; simp only [Int.natCast_add] at e; simp [e], dUnhide O, dUnhide hw⟩
set_option maxHeartbeats 2000000 in
theorem markRegister_ (lo hi : Nat) (v : Value) (m : Rg) (k0 : Nat) (w : World) (hk : k0 ≤ 536870912) (hl : cntRegister m ≤ 536870912) (h : Sits (OwRegister lo hi v m) lo hi w) :
    Calls Tryd.prog 35 #[v, .int .i64 (k0 : Int)] w fun e w' => e = .returned (.int .i64 ((k0 + cntRegister m : Nat) : Int)) ∧ Sits (OwRegister lo hi v (mkRegister k0 m)) lo hi w' ∧ Wr lo hi w w' := by
  obtain ⟨sv, rfl, hn⟩ := h.now
  have hN : Sits (OwEraS lo hi sv m.eras) lo hi w := h.imp fun W ⟨sv', h1, h2⟩ => by cases h1; exact h2
  have hb0 : ∀ o, Below w.heap.size w (w.alloc o) := fun o => (Below.refl _ _).alloc (Nat.le_refl _) o
  have C1 := dHide fun o => markEraS_ lo hi sv m.eras k0 (w.alloc o) hk hl (hN.below (hb0 o))
  have e1 : ((k0 + cntRegister m : Nat) : Int) = ((k0 + cntEraS m.eras : Nat) : Int) := rfl
  rw [e1]
  have HI := dHide fun (W : World) (h : Sits (OwEraS lo hi sv (mkEraS k0 m.eras)) lo hi W) => h.imp fun W hW => (show OwRegister lo hi (.agg #[sv, .int .i64 m.trim]) (mkRegister k0 m) W from ⟨sv, rfl, hW⟩)
  obtain ⟨a, cap, rfl, -⟩ := formK (OwK.rd hn)
  clear h hN hk hl e1 hn
  go_enter Tryd.func35, Tryd.ntmps35
  go_wp2_with fail
  refine (dUnhide C1 _).mono ?_
  rintro e w1 ⟨rfl, o1, d1⟩
  have q1 := dHide (dUnhide HI _ o1)
  have D1 := dHide ((Wr.of_below (hb0 _)).trans d1)
  clear o1 d1 C1 hb0 HI
  go_wp2
  go_ret
  exact ⟨rfl, dUnhide q1, dUnhide D1⟩
end Go.Proofs.YtognmmmplmideaaDoor
namespace Go.Proofs.YtognmmmplmideaaDoor
open Go.ChangeShapes Go.WideShapes Go.ChangeAt Go.RowKit
set_option linter.unusedVariables false
set_option linter.unusedSimpArgs false
set_option maxRecDepth 100000

set_option maxHeartbeats 4000000 in
theorem heldEraS_ (v : Value) (m : List Er) (k0 : Nat) (w : World) (hk : k0 ≤ 536870912) (hl : cntEraS m ≤ 536870912) (h : RdEraS v (mkEraS k0 m) w) :
    Calls Tryd.prog 77 #[v, .int .i64 (k0 : Int)] w fun e w' => e = .returned (.int .i64 ((k0 + cntEraS m : Nat) : Int)) ∧ Below w.heap.size w w' := by
  obtain ⟨rs, hm, hr, hn⟩ := h
  have em : m.length = rs.length := by rw [← mkEraS_len k0 m, ← hm, List.length_map]
  have HV := dHide fun W (hb : Below w.heap.size w W) => hr.below hb
  have HN := dHide fun W (hb : Below w.heap.size w W) k (hk : k < rs.length) => (hn _ (List.getElem_mem hk)).below hb
  obtain ⟨h0, a, cap, rfl, -, -⟩ := hr
  have hlen : rs.length ≤ 268435456 := by unfold cntEraS at hl; omega
  have HM : Hid (∀ k (hk : k < rs.length), ∃ n : Nat, rs[k].m = mkEr (k0 + cntEraS (m.take k)) (m[k]'(by omega)) ∧ n = (m[k]'(by omega)).nodes.length ∧ cntEraS (m.take (k + 1)) = cntEraS (m.take k) + n + 2 ∧ cntEraS (m.take (k + 1)) ≤ 536870912) := fun k hk => by
    refine ⟨_, ?_, rfl, cntEraS_take m k (by omega), Nat.le_trans (cntEraS_le' m (k + 1)) hl⟩
    have e1 : (rs.map Nst.m)[k]'(by simpa using hk) = (mkEraS k0 m)[k]'(by rw [mkEraS_len]; omega) := by simp only [hm]
    rw [List.getElem_map, mkEraS_at k0 m k (by omega)] at e1
    exact e1
  have hcn : Hid (cntEraS (m.take rs.length) = cntEraS m) := by rw [Hid, List.take_of_length_le (by omega)]
  clear hn hm hl
  go_enter Tryd.func77, Tryd.ntmps77
  go_wp2
  go_loopw [5, 1] (fun x y wr => ∃ (k K : Nat), x = .int .i64 (k : Int) ∧ y = .int .i64 (K : Int) ∧ k ≤ rs.length ∧ K ≤ 1073741824 ∧ Hid (K = k0 + cntEraS (m.take k)) ∧ Below w.heap.size w wr) (fun x _ _ => rs.length - (intOf x).toNat)
  case atStart => exact ⟨0, k0, rfl, rfl, Nat.zero_le _, by omega, rfl, Below.refl _ _⟩
  case round =>
    obtain ⟨k, K, rfl, rfl, hkk, hKb, hK, hb⟩ := hrel
    by_cases hlt : (k : Int) < (rs.length : Int)
    · have hkl : k < rs.length := by omega
      obtain ⟨b, off, rfl, hc⟩ := (dUnhide HV wr hb).era hkl
      have E1 := hc k hkl
      obtain ⟨n, q1, q2, q3, q4⟩ := dUnhide HM k hkl
      have N1 := dUnhide HN wr hb k hkl
      rw [q1, ← dUnhide hK] at N1
      unfold ErAt at E1
      rw [q1, ← dUnhide hK] at E1
      unfold Sv at N1
      unfold mkEr at E1 N1
      rw [← q2] at E1 N1
      simp only [marksN_len] at E1 N1
      rw [q1] at N1
      unfold mkEr at N1
      simp only [marksN_len, ← q2] at N1
      have HE : Hid (∀ W, Below wr.heap.size wr W → W.cell? ⟨b, off + k * 3 + 1, none⟩ = some (.bool ((K + n) % 3 == 0)) ∧ W.cell? ⟨b, off + k * 3 + 2, none⟩ = some (.int .i64 ((K + n + 1 : Nat) : Int))) := fun W hB => ⟨(hB.cell (p := ⟨b, off + k * 3 + 1, none⟩) (dCell_lt E1.2.1)).trans E1.2.1, (hB.cell (p := ⟨b, off + k * 3 + 2, none⟩) (dCell_lt E1.2.2)).trans E1.2.2⟩
      have CT := dHide (heldIntS_yes _ K n wr (by omega) (by omega) N1)
      have c0 := E1.1
      have hK2 : Hid (K + n + 2 = k0 + cntEraS (m.take (k + 1))) := by rw [Hid, q3, dUnhide hK]; omega
      have hKb2 : K + n + 2 ≤ 1073741824 := by rw [dUnhide hK2]; omega
      have e3 : ((K + n + 1 : Nat) : Int) = ((K + n : Nat) : Int) + 1 := by omega
      have e4 : ((K + n + 2 : Nat) : Int) = ((K + n : Nat) : Int) + 1 + 1 := by omega
      have em3 := mod3_eq (K + n)
      rw [← em3, e3] at HE
      have G := dHide (show ∃ K' : Nat, (Value.int .i64 (((K + n : Nat) : Int) + 1 + 1)) = .int .i64 (K' : Int) ∧ K' ≤ 1073741824 ∧ Hid (K' = k0 + cntEraS (m.take (k + 1))) from ⟨K + n + 2, by rw [e4], hKb2, hK2⟩)
      have hq : (K + n : Nat) ≤ 1073741824 := by omega
      have hq0 : ¬ (((K + n : Nat) : Int) < 0) := by omega
      generalize (K + n : Nat) = q at *
      generalize rs[k].a = ya at *
      generalize rs[k].c = yc at *
      clear hc E1 q1 q2 q3 q4 N1 e3 e4 em3 hK2 hKb2 HN HM
      go_wp2_with fail
      refine (dUnhide CT).mono ?_
      rintro r w2 ⟨rfl, b2⟩
      obtain ⟨z1, z2⟩ := dUnhide HE w2 b2
      have hb2 := belowThen hb b2
      clear CT b2 c0 HE hb
      go_wp2
      go_roundw
      case rel =>
        obtain ⟨K', g2, g4, g5⟩ := dUnhide G
        exact ⟨k + 1, K', by go_num, by first | exact g2 | (rw [← g2]; go_num), by omega, g4, g5, hb2⟩
      case measure => simp [intOf]; omega
    · have e1 : k = rs.length := by omega
      subst e1
      have e2 : Hid ((K : Int) = ((k0 + cntEraS m : Nat) : Int)) := by rw [Hid, dUnhide hK, dUnhide hcn]
      clear hK hcn HV HN HM
      go_wp2
      go_ret
      exact ⟨by have e := dUnhide e2; simp only [Int.natCast_add] at e; simp [e], hb⟩
set_option maxHeartbeats 2000000 in
theorem heldRegister_ (v : Value) (m : Rg) (k0 : Nat) (w : World) (hk : k0 ≤ 536870912) (hl : cntRegister m ≤ 536870912) (h : RdRegister v (mkRegister k0 m) w) :
    Calls Tryd.prog 37 #[v, .int .i64 (k0 : Int)] w fun e w' => e = .returned (.int .i64 ((k0 + cntRegister m : Nat) : Int)) ∧ Below w.heap.size w w' := by
  have hb0 : ∀ o, Below w.heap.size w (w.alloc o) := fun o => (Below.refl _ _).alloc (Nat.le_refl _) o
  obtain ⟨sv, rfl, h⟩ := h
  have C1 := dHide fun W (hb : Below w.heap.size w W) => heldEraS_ sv m.eras k0 W hk hl (RdK.below h hb)
  obtain ⟨a, cap, rfl, -⟩ := formK h
  have e1 : ((k0 + cntRegister m : Nat) : Int) = ((k0 + cntEraS m.eras : Nat) : Int) := rfl
  rw [e1]
  have h1 : ¬ ((k0 + cntEraS m.eras : Nat) : Int) < 0 := by omega
  generalize ((k0 + cntEraS m.eras : Nat) : Int) = q at *
  generalize (mkRegister k0 m).trim = tr at *
  generalize (mkRegister k0 m).eras.length = n at *
  clear h e1 hk hl
  go_enter Tryd.func37, Tryd.ntmps37
  go_wp2_with fail
  refine (dUnhide C1 _ (hb0 _)).mono ?_
  rintro r w1 ⟨rfl, b1⟩
  have B1 := belowThen (hb0 _) b1
  clear C1 b1 hb0
  go_wp2
  go_ret
  exact ⟨rfl, B1⟩
end Go.Proofs.YtognmmmplmideaaDoor
