/- Words and writers, as the exact laws handle them: measured, compared. -/
import Derived.Test.YtfipenjojgflmaaWrA
import Derived.Test.YtfipenjojgflmaaGaA
import Derived.Deep.RegionHeld3
import Derived.Deep.DeepCutAuto
namespace Go.Proofs.Ytfipenjojgflmaa
open Go.ChangeShapes Go.WideShapes Go.ChangeAt Go.RowKit
set_option linter.unusedVariables false
set_option linter.unusedSimpArgs false
set_option maxRecDepth 100000

/-- Each text can be measured. -/
def txtW (ms : List Wd) : Prop := ∀ e ∈ ms, e.data.size ≤ 9223372036854775807
theorem szWord_any (p : Nst Wd) (left : Int) (l0 : 0 ≤ left) (l1 : left ≤ 1048576) (w : World) (ht : p.m.data.size ≤ 9223372036854775807) (h : Ns w (Sv Wd.acks p) p.m.acks) :
    Calls Try.prog 91 #[.agg #[.string p.m.data, .slice p.a p.m.acks.length p.c, .bool p.m.done], .int .i64 left] w fun r w' => r = .returned (.int .i64 (lft left (p.m.data.size + p.m.acks.length))) ∧ Below w.heap.size w w' := by
  have hb0 : ∀ o, Below w.heap.size w (w.alloc o) := fun o => (Below.refl _ _).alloc (Nat.le_refl _) o
  by_cases hd : left < (p.m.data.size : Int)
  · rw [lft_no (show left < ((p.m.data.size + p.m.acks.length : Nat) : Int) by omega)]
    have hd' : left - (p.m.data.size : Int) < 0 := by omega
    clear hd h
    go_enter Try.func91, Try.ntmps91
    go_wp2
    go_ret
    exact ⟨rfl, hb0 _⟩
  have hd' : ¬ (left - (p.m.data.size : Int) < 0) := by omega
  have C1 := dHide fun o => szIntS_any _ p.m.acks (left - (p.m.data.size : Int)) (by omega) (by omega) (w.alloc o) (h.below (hb0 o))
  clear h
  unfold Sv at C1
  by_cases hl : left - (p.m.data.size : Int) < (p.m.acks.length : Int)
  · rw [show left1 p.m.acks.length (left - (p.m.data.size : Int)) = -1 from if_pos hl] at C1
    rw [lft_no (show left < ((p.m.data.size + p.m.acks.length : Nat) : Int) by omega)]
    clear hl hd
    go_enter Try.func91, Try.ntmps91
    go_wp2_with fail
    refine (dUnhide C1 _).mono ?_
    rintro e w1 ⟨rfl, rfl⟩
    go_wp2
    go_ret
    exact ⟨rfl, hb0 _⟩
  · rw [show left1 p.m.acks.length (left - (p.m.data.size : Int)) = left - (p.m.data.size : Int) - (p.m.acks.length : Int) from if_neg hl] at C1
    rw [lft_yes (show ¬ left < ((p.m.data.size + p.m.acks.length : Nat) : Int) by omega), show left - ((p.m.data.size + p.m.acks.length : Nat) : Int) = left - (p.m.data.size : Int) - (p.m.acks.length : Int) by omega]
    have hd2 : ¬ (left - (p.m.data.size : Int) - (p.m.acks.length : Int) < 0) := by omega
    clear hl hd
    go_enter Try.func91, Try.ntmps91
    go_wp2_with fail
    refine (dUnhide C1 _).mono ?_
    rintro e w1 ⟨rfl, rfl⟩
    go_wp2
    go_ret
    exact ⟨rfl, hb0 _⟩
/-- Bytes and nodes of the first ones. -/
def sumB (ms : List Wd) (k : Nat) : Nat := sumX (ms.take k) + sumW (ms.take k)
theorem sumB_step (ms : List Wd) (k : Nat) (h : k < ms.length) : sumB ms (k + 1) = sumB ms k + (ms[k].data.size + ms[k].acks.length) := by
  unfold sumB
  rw [sumX_take ms k h, sumW_take ms k h]
  omega
theorem sumB_le (ms : List Wd) (k : Nat) : sumB ms k ≤ sumX ms + sumW ms := by
  have h1 := sumX_le ms k
  have h2 := sumW_le ms k
  unfold sumB
  omega
set_option maxHeartbeats 2000000 in
theorem szWordS_any (v : Value) (ms : List Wd) (left : Int) (l0 : 0 ≤ left) (l1 : left ≤ 1048576) (ht : txtW ms) (w : World) (hv : RdWordS v ms w) :
    Calls Try.prog 64 #[v, .int .i64 left] w fun r w' => r = .returned (.int .i64 (lft left (sizWordS ms))) ∧ Below w.heap.size w w' := by
  obtain ⟨rs, rfl, hr, hn⟩ := hv
  have HV := dHide fun W (hb : Below w.heap.size w W) => hr.below hb
  have HN := dHide fun W (hb : Below w.heap.size w W) k (hk : k < rs.length) => (hn _ (List.getElem_mem hk)).below hb
  have HT := dHide fun k (hk : k < rs.length) => ht _ (List.mem_map.2 ⟨_, List.getElem_mem hk, rfl⟩)
  obtain ⟨h0, a, cap, rfl, -, -⟩ := hr
  have e0 : sizWordS (rs.map Nst.m) = rs.length + (sumX (rs.map Nst.m) + sumW (rs.map Nst.m)) := by unfold sizWordS; rw [List.length_map]; omega
  rw [e0]
  clear hn e0 ht
  by_cases hl : left < (rs.length : Int)
  · have e1 : lft left (rs.length + (sumX (rs.map Nst.m) + sumW (rs.map Nst.m))) = -1 := lft_no (by omega)
    rw [e1]
    have hd : left - (rs.length : Int) < 0 := by omega
    clear HV HN HT e1
    go_enter Try.func64, Try.ntmps64
    go_wp2
    go_ret
    exact ⟨rfl, Below.refl _ _⟩
  · have hd : ¬ left - (rs.length : Int) < 0 := by omega
    have hs3 := sumB_le (rs.map Nst.m)
    have hs4 : sumB (rs.map Nst.m) rs.length = sumX (rs.map Nst.m) + sumW (rs.map Nst.m) := by unfold sumB; rw [List.take_of_length_le (by rw [List.length_map]; omega)]
    generalize sumX (rs.map Nst.m) + sumW (rs.map Nst.m) = SB at *
    have LN : Hid (left < ((rs.length + SB : Nat) : Int) → lft left (rs.length + SB) = -1) := lft_no
    have LY : Hid (¬ left < ((rs.length + SB : Nat) : Int) → lft left (rs.length + SB) = left - ((rs.length + SB : Nat) : Int)) := lft_yes
    generalize lft left (rs.length + SB) = M at *
    have HS3 := dHide hs3
    have HS4 := dHide hs4
    clear hs3 hs4
    go_enter Try.func64, Try.ntmps64
    go_wp2
    go_loopw [5, 1] (fun x y wr => ∃ (k : Nat) (q : Int), x = .int .i64 (k : Int) ∧ y = .int .i64 q ∧ k ≤ rs.length ∧ 0 ≤ q ∧ q ≤ 1048576 ∧ Hid (q = left - (rs.length : Int) - (sumB (rs.map Nst.m) k : Int)) ∧ Below w.heap.size w wr) (fun x _ _ => rs.length - (intOf x).toNat)
    case atStart => exact ⟨0, _, rfl, rfl, Nat.zero_le _, by omega, by omega, by simp [Hid, sumB, sumX, sumW], Below.refl _ _⟩
    case round =>
      obtain ⟨k, q, rfl, rfl, hk, q0, q1, hq, hb⟩ := hrel
      by_cases hlt : (k : Int) < (rs.length : Int)
      · have hkl : k < rs.length := by omega
        obtain ⟨b, off, rfl, hc⟩ := (dUnhide HV wr hb).word hkl
        have hs := sumB_step (rs.map Nst.m) k (by simpa using hkl)
        have hs2 := dUnhide HS3 (k + 1)
        rw [List.getElem_map] at hs
        have CE := dHide fun W (hB : Below wr.heap.size wr W) => szWord_any rs[k] q q0 q1 W (dUnhide HT k hkl) (dUnhide HN W (belowThen hb hB) k hkl)
        obtain ⟨c0, c1, c2⟩ := hc k hkl
        have hq' := dUnhide hq
        generalize rs[k] = y at *
        obtain ⟨ya, yc, yd, yn, yb⟩ := y
        simp only at *
        by_cases hn : q < ((yd.size + yn.length : Nat) : Int)
        · rw [lft_no hn] at CE
          have e1 := dUnhide LN (by omega)
          subst e1
          clear hc HV HN HT HS3 HS4 hq' hq hs hs2 hn LN LY
          go_wp2_with fail
          refine (dUnhide CE _ (Below.refl _ _)).mono ?_
          rintro r w2 ⟨rfl, b2⟩
          have hb2 := belowThen hb b2
          clear CE b2 c0 c1 c2 hb
          go_wp2
          go_ret
          exact ⟨rfl, hb2⟩
        · rw [lft_yes hn] at CE
          have e1 : Hid (q - ((yd.size + yn.length : Nat) : Int) = left - (rs.length : Int) - (sumB (rs.map Nst.m) (k + 1) : Int)) := by rw [Hid, hs]; omega
          have q0' : 0 ≤ q - ((yd.size + yn.length : Nat) : Int) := by omega
          have q1' : q - ((yd.size + yn.length : Nat) : Int) ≤ 1048576 := by omega
          generalize q - ((yd.size + yn.length : Nat) : Int) = q' at *
          have hd' : ¬ q' < 0 := by omega
          clear hc hq' hq hs hs2 hn
          go_wp2_with fail
          refine (dUnhide CE _ (Below.refl _ _)).mono ?_
          rintro r w2 ⟨rfl, b2⟩
          have hb2 := belowThen hb b2
          clear CE b2 c0 c1 c2 hb
          go_wp2
          go_roundw
          case rel => exact ⟨k + 1, q', by go_num, rfl, by omega, q0', q1', e1, hb2⟩
          case measure => simp [intOf]; omega
      · have e1 : k = rs.length := by omega
        have hq' := dUnhide hq
        rw [e1, dUnhide HS4] at hq'
        have e2 := dUnhide LY (by omega)
        have e3 : Hid (q = M) := by rw [Hid, e2, hq']; omega
        clear hq hq' e1 e2 LN LY HV HN HT HS3 HS4
        go_wp2
        go_ret
        exact ⟨by rw [← dUnhide e3]; rfl, hb⟩
theorem szWriter_ (v : Value) (m : Wt) (left : Int) (l0 : 0 ≤ left) (l1 : left ≤ 1048576) (ht : txtW m.words) (w : World) (h : RdWriter v m w) :
    Calls Try.prog 30 #[v, .int .i64 left] w fun e w' => e = .returned (.int .i64 (lft left (sizWriter m))) ∧ Below w.heap.size w w' := by
  have hb0 : ∀ o, Below w.heap.size w (w.alloc o) := fun o => (Below.refl _ _).alloc (Nat.le_refl _) o
  obtain ⟨sv, rfl, h⟩ := h
  have C1 := dHide fun W (hb : Below w.heap.size w W) => szWordS_any sv m.words left l0 l1 ht W (RdK.below h hb)
  obtain ⟨a, cap, rfl, -⟩ := formK h
  have e0 : sizWriter m = sizWordS m.words := rfl
  rw [e0]
  have hL : lft left (sizWordS m.words) < 0 → lft left (sizWordS m.words) = -1 := fun h => by
    unfold lft at h ⊢
    split
    · rfl
    · rename_i h2; rw [if_neg h2] at h; omega
  generalize lft left (sizWordS m.words) = M at *
  have HL := dHide hL
  clear hL h e0 ht
  go_enter Try.func30, Try.ntmps30
  go_wp2_with fail
  refine (dUnhide C1 _ (hb0 _)).mono ?_
  rintro r w1 ⟨rfl, b1⟩
  have B1 := belowThen (hb0 _) b1
  clear b1 hb0 C1
  by_cases hM : M < 0
  · have e1 := dUnhide HL hM
    subst e1
    go_wp2
    go_ret
    exact ⟨rfl, B1⟩
  · go_wp2
    go_ret
    exact ⟨rfl, B1⟩
set_option maxHeartbeats 2000000 in
theorem eqWord_yes (p q : Nst Wd) (w : World) (hm : p.m = q.m) (h : Ns w (Sv Wd.acks p) p.m.acks) (h' : Ns w (Sv Wd.acks q) q.m.acks) :
    Calls Try.prog 94 #[.agg #[.string p.m.data, .slice p.a p.m.acks.length p.c, .bool p.m.done], .agg #[.string q.m.data, .slice q.a q.m.acks.length q.c, .bool q.m.done]] w fun r w' => r = .returned (.bool true) ∧ Below w.heap.size w w' := by
  obtain ⟨pa, pc, m⟩ := p
  obtain ⟨qa, qc, m'⟩ := q
  cases hm
  have hb0 : ∀ o o', Below w.heap.size w ((w.alloc o).alloc o') := fun o o' => ((Below.refl _ _).alloc (Nat.le_refl _) o).alloc (by simp) o'
  have C1 := dHide fun o o' => eqIntS_yes _ _ m.acks ((w.alloc o).alloc o') (h.below (hb0 o o')) (h'.below (hb0 o o'))
  unfold Sv at C1
  clear h h'
  simp only at *
  obtain ⟨yd, yn, yb⟩ := m
  simp only at *
  have X0 := (Bx.new w [.string yd, .slice pa yn.length pc, .bool yb] 35).below ((Below.refl _ _).alloc (Nat.le_refl _) (.cells #[.string yd, .slice qa yn.length qc, .bool yb] 35))
  have Y0 := Bx.new (w.alloc (.cells #[.string yd, .slice pa yn.length pc, .bool yb] 35)) [.string yd, .slice qa yn.length qc, .bool yb] 35
  have e1 : (w.alloc (.cells #[.string yd, .slice pa yn.length pc, .bool yb] 35)).heap.size = w.heap.size + 1 := by simp
  rw [e1] at Y0
  clear e1
  go_enter Try.func94, Try.ntmps94
  go_wp2_with fail
  refine (dUnhide C1 _ _).mono ?_
  rintro e w1 ⟨rfl, b1⟩
  have B1 := belowThen (hb0 _ _) b1
  have X1 := X0.below b1
  have Y1 := Y0.below b1
  have k2 := X1 2 _ rfl
  have j2 := Y1 2 _ rfl
  clear X0 Y0 b1 hb0 C1 X1 Y1
  go_wp2
  go_ret
  exact ⟨rfl, B1⟩
set_option maxHeartbeats 4000000 in
theorem eqWordS_ (u v : Value) (m : List Wd) (w : World) (hu : RdWordS u m w) (hv : RdWordS v m w) :
    Calls Try.prog 70 #[u, v] w fun e w' => e = .returned (.bool true) ∧ Below w.heap.size w w' := by
  obtain ⟨rs, e1, hr, hn⟩ := hu
  obtain ⟨ss, e2, hs, hp⟩ := hv
  have el : rs.length = ss.length := by rw [← List.length_map (f := Nst.m), e1, ← e2, List.length_map]
  have em : Hid (∀ k (h : k < rs.length) (h' : k < ss.length), rs[k].m = ss[k].m) := fun k h h' => by
    have q1 : (rs.map Nst.m)[k]? = (ss.map Nst.m)[k]? := by rw [e1, e2]
    rw [List.getElem?_map, List.getElem?_map, List.getElem?_eq_getElem h, List.getElem?_eq_getElem h'] at q1
    simpa using q1
  have HU := dHide fun W (hb : Below w.heap.size w W) => hr.below hb
  have HV := dHide fun W (hb : Below w.heap.size w W) => hs.below hb
  have HN := dHide fun W (hb : Below w.heap.size w W) k (hk : k < rs.length) => (hn _ (List.getElem_mem hk)).below hb
  have HP := dHide fun W (hb : Below w.heap.size w W) k (hk : k < ss.length) => (hp _ (List.getElem_mem hk)).below hb
  obtain ⟨h0, a, cap, rfl, -, -⟩ := hr
  obtain ⟨h0', a', cap', rfl, -, -⟩ := hs
  rw [← el]
  have EL := dHide el
  clear hn hp e1 e2 el h0'
  go_enter Try.func70, Try.ntmps70
  go_wp2
  go_loopw [5] (fun i wr => ∃ k : Nat, i = .int .i64 (k : Int) ∧ k ≤ rs.length ∧ Below w.heap.size w wr) (fun i _ => rs.length - (intOf i).toNat)
  case atStart => exact ⟨0, rfl, Nat.zero_le _, Below.refl _ _⟩
  case round =>
    obtain ⟨k, rfl, hk, hb⟩ := hrel
    by_cases hlt : (k : Int) < (rs.length : Int)
    · have hkl : k < rs.length := by omega
      have hkl' : k < ss.length := by rw [← dUnhide EL]; exact hkl
      obtain ⟨b, off, rfl, hc⟩ := (dUnhide HU wr hb).word hkl
      obtain ⟨b', off', rfl, hc'⟩ := (dUnhide HV wr hb).word hkl'
      have E1 := dHide (hc k hkl)
      have E2 := dHide (hc' k hkl')
      obtain ⟨c0, c1, c2⟩ := hc k hkl
      obtain ⟨e0, e1, e2⟩ := hc' k hkl'
      have CE := dHide fun W (hB : Below wr.heap.size wr W) => eqWord_yes rs[k] ss[k] W (dUnhide em k hkl hkl') (dUnhide HN W (belowThen hb hB) k hkl) (dUnhide HP W (belowThen hb hB) k hkl')
      generalize rs[k] = y at *
      generalize ss[k] = y' at *
      obtain ⟨ya, yc, yd, yn, yb⟩ := y
      obtain ⟨za, zc, zd, zn, zb⟩ := y'
      unfold WdAt at E1 E2
      simp only at *
      clear hc hc' HU HV HN HP em
      have hbr : Below wr.heap.size wr wr.drew := (Below.refl _ _).drew
      go_wp2_with fail
      go_region_held3 (fun W => (W.cell? ⟨b, off + k * 3, none⟩ = some (.string yd) ∧ W.cell? ⟨b, off + k * 3 + 1, none⟩ = some (.slice ya yn.length yc) ∧ W.cell? ⟨b, off + k * 3 + 2, none⟩ = some (.bool yb)) ∧ W.cell? ⟨b', off' + k * 3, none⟩ = some (.string zd) ∧ W.cell? ⟨b', off' + k * 3 + 1, none⟩ = some (.slice za zn.length zc) ∧ W.cell? ⟨b', off' + k * 3 + 2, none⟩ = some (.bool zb)) (first | exact ⟨WdAt.below (p := ⟨ya, yc, yd, yn, yb⟩) (dUnhide E1) hb5, WdAt.below (p := ⟨za, zc, zd, zn, zb⟩) (dUnhide E2) hb5⟩ | go_keep)
        (first
          | (go_at_call 94; refine (dUnhide CE _ hbr).mono ?_; rintro r w5 ⟨rfl, b5⟩; have hb5 := belowThen hbr b5))
      all_goals
        go_wp2
        go_roundw
        case rel => exact ⟨k + 1, by go_num, by omega, belowThen hb hb5⟩
        case measure => simp [intOf]; omega
    · clear HU HV HN HP em
      go_wp2
      go_ret
      exact ⟨rfl, hb⟩
set_option maxHeartbeats 2000000 in
theorem eqWriter_ (u v : Value) (m : Wt) (w : World) (hu : RdWriter u m w) (hv : RdWriter v m w) :
    Calls Try.prog 35 #[u, v] w fun e w' => e = .returned (.bool true) ∧ Below w.heap.size w w' := by
  have hb0 : ∀ o o', Below w.heap.size w ((w.alloc o).alloc o') := fun o o' => ((Below.refl _ _).alloc (Nat.le_refl _) o).alloc (by simp) o'
  obtain ⟨su, rfl, hu⟩ := hu
  obtain ⟨sv, rfl, hv⟩ := hv
  have C1 := dHide fun W (hb : Below w.heap.size w W) => eqWordS_ su sv m.words W (RdK.below hu hb) (RdK.below hv hb)
  obtain ⟨a, cap, rfl, -⟩ := formK hu
  obtain ⟨a', cap', rfl, -⟩ := formK hv
  generalize m.epoch = sl at *
  have X0 := (Bx.new w [.int .i64 sl, .slice a m.words.length cap] 29).below ((Below.refl _ _).alloc (Nat.le_refl _) (.cells #[.int .i64 sl, .slice a' m.words.length cap'] 29))
  have Y0 := Bx.new (w.alloc (.cells #[.int .i64 sl, .slice a m.words.length cap] 29)) [.int .i64 sl, .slice a' m.words.length cap'] 29
  have e1 : (w.alloc (.cells #[.int .i64 sl, .slice a m.words.length cap] 29)).heap.size = w.heap.size + 1 := by simp
  rw [e1] at Y0
  clear e1 hu hv
  go_enter Try.func35, Try.ntmps35
  go_wp2_with fail
  refine (dUnhide C1 _ (hb0 _ _)).mono ?_
  rintro e w1 ⟨rfl, b1⟩
  have B1 := belowThen (hb0 _ _) b1
  clear X0 Y0 b1 hb0 C1
  go_wp2
  go_ret
  exact ⟨rfl, B1⟩
end Go.Proofs.Ytfipenjojgflmaa
