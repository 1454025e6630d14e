/- Several texts in one: SitR, MnSa. -/
import Derived.Test.YtkiclbbialadlaaGreatGbO
import Derived.Test.YtkiclbbialadlaaGreatGaA
import Derived.Deep.RegionHeld3
import Derived.Deep.DeepCutAuto
namespace Go.Proofs.YtkiclbbialadlaaGreat
open Go.ChangeShapes Go.WideShapes Go.ChangeAt Go.RowKit
set_option linter.unusedSimpArgs false
set_option linter.unusedVariables false
set_option maxRecDepth 100000
theorem szEra_any (p : Nst Er) (left : Int) (l0 : 0 ≤ left) (l1 : left ≤ 1048576) (w : World) (h : Ns w (Sv Er.nodes p) p.m.nodes) :
  Calls Tryz.prog 99 #[.agg #[.slice p.a p.m.nodes.length p.c, .bool p.m.closed, .int .i64 p.m.last], .int .i64 left] w fun r w' => r = .returned (.int .i64 (lft left p.m.nodes.length)) ∧ Below w.heap.size w w' := by
 have hb0 : ∀ o, Below w.heap.size w (w.alloc o) := fun o => (Below.refl _ _).alloc (Nat.le_refl _) o
 have C1 := dH fun o => szIntS_any _ p.m.nodes left l0 l1 (w.alloc o) (h.below (hb0 o))
 clear h
 unfold Sv at C1
 by_cases hl : left < (p.m.nodes.length : Int)
 ·rw [show left1 p.m.nodes.length left = -1 from if_pos hl] at C1
  rw [lft_no hl]
  clear hl
  go_enter Tryz.func99, Tryz.ntmps99
  go_wp2_with fail
  refine (dU C1 _).mono ?_
  rintro e w1 ⟨rfl, rfl⟩
  go_wp2
  go_ret
  exact ⟨rfl, hb0 _⟩
 ·rw [show left1 p.m.nodes.length left = left - (p.m.nodes.length : Int) from if_neg hl] at C1
  rw [lft_yes hl]
  have hd' : ¬ (left - (p.m.nodes.length : Int) < 0) := by omega
  clear hl
  go_enter Tryz.func99, Tryz.ntmps99
  go_wp2_with fail
  refine (dU C1 _).mono ?_
  rintro e w1 ⟨rfl, rfl⟩
  go_wp2
  go_ret
  exact ⟨rfl, hb0 _⟩
set_option maxHeartbeats 2000000 in
theorem szEraS_any (v : Value) (ms : List Er) (left : Int) (l0 : 0 ≤ left) (l1 : left ≤ 1048576) (w : World) (hv : RdEraS v ms w) :
  Calls Tryz.prog 59 #[v, .int .i64 left] w fun r w' => r = .returned (.int .i64 (lft left (sizEraS ms))) ∧ Below w.heap.size w w' := by
 obtain ⟨rs, rfl, hr, hn⟩ := hv
 have HV := dH fun W (hb : Below w.heap.size w W) => hr.below hb
 have HN := dH fun W (hb : Below w.heap.size w W) k (hk : k < rs.length) => (hn _ (List.getElem_mem hk)).below hb
 obtain ⟨h0, a, cap, rfl, -, -⟩ := hr
 have e0 : sizEraS (rs.map Nst.m) = rs.length + sumN (rs.map Nst.m) := by unfold sizEraS; rw [List.length_map]
 rw [e0]
 clear hn e0
 by_cases hl : left < (rs.length : Int)
 ·have e1 : lft left (rs.length + sumN (rs.map Nst.m)) = -1 := lft_no (by omega)
  rw [e1]
  have hd : left - (rs.length : Int) < 0 := by omega
  clear HV HN e1
  go_enter Tryz.func59, Tryz.ntmps59
  go_wp2
  go_ret
  exact ⟨rfl, Below.refl _ _⟩
 ·have hd : ¬ left - (rs.length : Int) < 0 := by omega
  have LN : Hid (left < ((rs.length + sumN (rs.map Nst.m) : Nat) : Int) → lft left (rs.length + sumN (rs.map Nst.m)) = -1) := lft_no
  have LY : Hid (¬ left < ((rs.length + sumN (rs.map Nst.m) : Nat) : Int) → lft left (rs.length + sumN (rs.map Nst.m)) = left - ((rs.length + sumN (rs.map Nst.m) : Nat) : Int)) := lft_yes
  generalize lft left (rs.length + sumN (rs.map Nst.m)) = M at *
  go_enter Tryz.func59, Tryz.ntmps59
  go_wp2
  go_loopw [5, 1] (fun x y wr => ∃ (k : Nat) (q : Int), x = .int .i64 (k : Int) ∧ y = .int .i64 q ∧ k ≤ rs.length ∧ 0 ≤ q ∧ q ≤ 1048576 ∧ Hid (q = left - (rs.length : Int) - (sumN ((rs.map Nst.m).take k) : Int)) ∧ Below w.heap.size w wr) (fun x _ _ => rs.length - (intOf x).toNat)
  case atStart => exact ⟨0, _, rfl, rfl, Nat.zero_le _, by omega, by omega, by simp [Hid, sumN], Below.refl _ _⟩
  case round =>
   obtain ⟨k, q, rfl, rfl, hk, q0, q1, hq, hb⟩ := hrel
   by_cases hlt : (k : Int) < (rs.length : Int)
   ·have hkl : k < rs.length := by omega
    obtain ⟨b, off, rfl, hc⟩ := (dU HV wr hb).era hkl
    have hs := sumN_take (rs.map Nst.m) k (by simpa using hkl)
    have hs2 := sumN_le (rs.map Nst.m) (k + 1)
    rw [List.getElem_map] at hs
    have CE := dH fun W (hB : Below wr.heap.size wr W) => szEra_any rs[k] q q0 q1 W (dU HN W (bT hb hB) k hkl)
    obtain ⟨c0, c1, c2⟩ := hc k hkl
    have hq' := dU hq
    generalize rs[k] = y at *
    obtain ⟨ya, yc, yn, yb, yl⟩ := y
    simp only at *
    by_cases hn : q < (yn.length : Int)
    ·rw [lft_no hn] at CE
     have e1 := dU LN (by omega)
     subst e1
     clear hc HV HN hq' hq hs hs2 hn LN LY
     go_wp2_with fail
     refine (dU CE _ (Below.refl _ _)).mono ?_
     rintro r w2 ⟨rfl, b2⟩
     have hb2 := bT hb b2
     clear CE b2 c0 c1 c2 hb
     go_wp2
     go_ret
     exact ⟨rfl, hb2⟩
    ·rw [lft_yes hn] at CE
     have e1 : Hid (q - (yn.length : Int) = left - (rs.length : Int) - (sumN ((rs.map Nst.m).take (k + 1)) : Int)) := by rw [Hid, hs]; omega
     have q0' : 0 ≤ q - (yn.length : Int) := by omega
     have q1' : q - (yn.length : Int) ≤ 1048576 := by omega
     generalize q - (yn.length : Int) = q' at *
     have hd' : ¬ q' < 0 := by omega
     clear hc hq' hq hs hs2 hn
     go_wp2_with fail
     refine (dU CE _ (Below.refl _ _)).mono ?_
     rintro r w2 ⟨rfl, b2⟩
     have hb2 := bT hb b2
     clear CE b2 c0 c1 c2 hb
     go_wp2
     go_roundw
     case rel => exact ⟨k + 1, q', by go_num, rfl, by omega, q0', q1', e1, hb2⟩
     case measure => simp [intOf]; omega
   ·have e1 : (rs.map Nst.m).take k = rs.map Nst.m := List.take_of_length_le (by rw [List.length_map]; omega)
    have hq' := dU hq
    rw [e1] at hq'
    have e2 := dU LY (by omega)
    have e3 : Hid (q = M) := by rw [Hid, e2, hq']; omega
    clear hq hq' e1 e2 LN LY HV HN
    go_wp2
    go_ret
    exact ⟨by rw [← dU e3]; rfl, hb⟩
theorem szRegister_ (v : Value) (m : Rg) (left : Int) (l0 : 0 ≤ left) (l1 : left ≤ 1048576) (w : World) (h : RdRegister v m w) :
  Calls Tryz.prog 22 #[v, .int .i64 left] w fun e w' => e = .returned (.int .i64 (lft left (sizRegister m))) ∧ Below w.heap.size w w' := by
 have hb0 : ∀ o, Below w.heap.size w (w.alloc o) := fun o => (Below.refl _ _).alloc (Nat.le_refl _) o
 obtain ⟨sv, rfl, h⟩ := h
 have C1 := dH fun W (hb : Below w.heap.size w W) => szEraS_any sv m.eras left l0 l1 W (RdK.below h hb)
 obtain ⟨a, cap, rfl, -⟩ := formK h
 have e0 : sizRegister m = sizEraS m.eras := rfl
 rw [e0]
 have hL : lft left (sizEraS m.eras) < 0 → lft left (sizEraS m.eras) = -1 := fun h => by
  unfold lft at h ⊢
  split
  ·rfl
  ·rename_i h2; rw [if_neg h2] at h; omega
 generalize lft left (sizEraS m.eras) = M at *
 have HL := dH hL
 clear hL h e0
 go_enter Tryz.func22, Tryz.ntmps22
 go_wp2_with fail
 refine (dU C1 _ (hb0 _)).mono ?_
 rintro r w1 ⟨rfl, b1⟩
 have B1 := bT (hb0 _) b1
 clear b1 hb0 C1
 by_cases hM : M < 0
 ·have e1 := dU HL hM
  subst e1
  go_wp2
  go_ret
  exact ⟨rfl, B1⟩
 ·go_wp2
  go_ret
  exact ⟨rfl, B1⟩
set_option maxHeartbeats 2000000 in
theorem eqEra_yes (p q : Nst Er) (w : World) (hm : p.m = q.m) (h : Ns w (Sv Er.nodes p) p.m.nodes) (h' : Ns w (Sv Er.nodes q) q.m.nodes) :
  Calls Tryz.prog 149 #[.agg #[.slice p.a p.m.nodes.length p.c, .bool p.m.closed, .int .i64 p.m.last], .agg #[.slice q.a q.m.nodes.length q.c, .bool q.m.closed, .int .i64 q.m.last]] w fun r w' => r = .returned (.bool true) ∧ Below w.heap.size w w' := by
 obtain ⟨pa, pc, m⟩ := p
 obtain ⟨qa, qc, m'⟩ := q
 cases hm
 have hb0 : ∀ o o', Below w.heap.size w ((w.alloc o).alloc o') := fun o o' => ((Below.refl _ _).alloc (Nat.le_refl _) o).alloc (by simp) o'
 have C1 := dH fun o o' => eqIntS_yes _ _ m.nodes ((w.alloc o).alloc o') (h.below (hb0 o o')) (h'.below (hb0 o o'))
 unfold Sv at C1
 clear h h'
 simp only at *
 obtain ⟨yn, yb, yl⟩ := m
 simp only at *
 have X0 := (Bx.new w [.slice pa yn.length pc, .bool yb, .int .i64 yl] 183).below ((Below.refl _ _).alloc (Nat.le_refl _) (.cells #[.slice qa yn.length qc, .bool yb, .int .i64 yl] 183))
 have Y0 := Bx.new (w.alloc (.cells #[.slice pa yn.length pc, .bool yb, .int .i64 yl] 183)) [.slice qa yn.length qc, .bool yb, .int .i64 yl] 183
 have e1 : (w.alloc (.cells #[.slice pa yn.length pc, .bool yb, .int .i64 yl] 183)).heap.size = w.heap.size + 1 := by simp
 rw [e1] at Y0
 clear e1
 go_enter Tryz.func149, Tryz.ntmps149
 go_wp2_with fail
 refine (dU C1 _ _).mono ?_
 rintro e w1 ⟨rfl, b1⟩
 have B1 := bT (hb0 _ _) b1
 have X1 := X0.below b1
 have Y1 := Y0.below b1
 have k1 := X1 1 _ rfl
 have k2 := X1 2 _ rfl
 have j1 := Y1 1 _ rfl
 have j2 := Y1 2 _ rfl
 clear X0 Y0 b1 hb0 C1 X1 Y1
 go_wp2
 go_ret
 exact ⟨rfl, B1⟩
set_option maxHeartbeats 4000000 in
theorem eqEraS_ (u v : Value) (m : List Er) (w : World) (hu : RdEraS u m w) (hv : RdEraS v m w) :
  Calls Tryz.prog 86 #[u, v] w fun e w' => e = .returned (.bool true) ∧ Below w.heap.size w w' := by
 obtain ⟨rs, e1, hr, hn⟩ := hu
 obtain ⟨ss, e2, hs, hp⟩ := hv
 have el : rs.length = ss.length := by rw [← List.length_map (f := Nst.m), e1, ← e2, List.length_map]
 have em : Hid (∀ k (h : k < rs.length) (h' : k < ss.length), rs[k].m = ss[k].m) := fun k h h' => by
  have q1 : (rs.map Nst.m)[k]? = (ss.map Nst.m)[k]? := by rw [e1, e2]
  rw [List.getElem?_map, List.getElem?_map, List.getElem?_eq_getElem h, List.getElem?_eq_getElem h'] at q1
  simpa using q1
 have HU := dH fun W (hb : Below w.heap.size w W) => hr.below hb
 have HV := dH fun W (hb : Below w.heap.size w W) => hs.below hb
 have HN := dH fun W (hb : Below w.heap.size w W) k (hk : k < rs.length) => (hn _ (List.getElem_mem hk)).below hb
 have HP := dH fun W (hb : Below w.heap.size w W) k (hk : k < ss.length) => (hp _ (List.getElem_mem hk)).below hb
 obtain ⟨h0, a, cap, rfl, -, -⟩ := hr
 obtain ⟨h0', a', cap', rfl, -, -⟩ := hs
 rw [← el]
 have EL := dH el
 clear hn hp e1 e2 el h0'
 go_enter Tryz.func86, Tryz.ntmps86
 go_wp2
 go_loopw [5] (fun i wr => ∃ k : Nat, i = .int .i64 (k : Int) ∧ k ≤ rs.length ∧ Below w.heap.size w wr) (fun i _ => rs.length - (intOf i).toNat)
 case atStart => exact ⟨0, rfl, Nat.zero_le _, Below.refl _ _⟩
 case round =>
  obtain ⟨k, rfl, hk, hb⟩ := hrel
  by_cases hlt : (k : Int) < (rs.length : Int)
  ·have hkl : k < rs.length := by omega
   have hkl' : k < ss.length := by rw [← dU EL]; exact hkl
   obtain ⟨b, off, rfl, hc⟩ := (dU HU wr hb).era hkl
   obtain ⟨b', off', rfl, hc'⟩ := (dU HV wr hb).era hkl'
   have E1 := dH (hc k hkl)
   have E2 := dH (hc' k hkl')
   obtain ⟨c0, c1, c2⟩ := hc k hkl
   obtain ⟨e0, e1, e2⟩ := hc' k hkl'
   have CE := dH fun W (hB : Below wr.heap.size wr W) => eqEra_yes rs[k] ss[k] W (dU em k hkl hkl') (dU HN W (bT hb hB) k hkl) (dU HP W (bT hb hB) k hkl')
   generalize rs[k] = y at *
   generalize ss[k] = y' at *
   obtain ⟨ya, yc, yn, yb, yl⟩ := y
   obtain ⟨za, zc, zn, zb, zl⟩ := y'
   unfold ErAt at E1 E2
   simp only at *
   clear hc hc' HU HV HN HP em
   have hbr : Below wr.heap.size wr wr.drew := (Below.refl _ _).drew
   go_wp2_with fail
   go_region_held3 (fun W => (W.cell? ⟨b, off + k * 3, none⟩ = some (.slice ya yn.length yc) ∧ W.cell? ⟨b, off + k * 3 + 1, none⟩ = some (.bool yb) ∧ W.cell? ⟨b, off + k * 3 + 2, none⟩ = some (.int .i64 yl)) ∧ W.cell? ⟨b', off' + k * 3, none⟩ = some (.slice za zn.length zc) ∧ W.cell? ⟨b', off' + k * 3 + 1, none⟩ = some (.bool zb) ∧ W.cell? ⟨b', off' + k * 3 + 2, none⟩ = some (.int .i64 zl)) (first | exact ⟨ErAt.below (p := ⟨ya, yc, yn, yb, yl⟩) (dU E1) hb5, ErAt.below (p := ⟨za, zc, zn, zb, zl⟩) (dU E2) hb5⟩ | go_keep)
    (first
     | (go_at_call 149; refine (dU CE _ hbr).mono ?_; rintro r w5 ⟨rfl, b5⟩; have hb5 := bT hbr b5))
   all_goals
    go_wp2
    go_roundw
    case rel => exact ⟨k + 1, by go_num, by omega, bT hb hb5⟩
    case measure => simp [intOf]; omega
  ·clear HU HV HN HP em
   go_wp2
   go_ret
   exact ⟨rfl, hb⟩
set_option maxHeartbeats 2000000 in
theorem eqRegister_ (u v : Value) (m : Rg) (w : World) (hu : RdRegister u m w) (hv : RdRegister v m w) :
  Calls Tryz.prog 43 #[u, v] w fun e w' => e = .returned (.bool true) ∧ Below w.heap.size w w' := by
 have hb0 : ∀ o o', Below w.heap.size w ((w.alloc o).alloc o') := fun o o' => ((Below.refl _ _).alloc (Nat.le_refl _) o).alloc (by simp) o'
 obtain ⟨su, rfl, hu⟩ := hu
 obtain ⟨sv, rfl, hv⟩ := hv
 have C1 := dH fun W (hb : Below w.heap.size w W) => eqEraS_ su sv m.eras W (RdK.below hu hb) (RdK.below hv hb)
 obtain ⟨a, cap, rfl, -⟩ := formK hu
 obtain ⟨a', cap', rfl, -⟩ := formK hv
 generalize m.trim = sl at *
 have X0 := (Bx.new w [.slice a m.eras.length cap, .int .i64 sl] 42).below ((Below.refl _ _).alloc (Nat.le_refl _) (.cells #[.slice a' m.eras.length cap', .int .i64 sl] 42))
 have Y0 := Bx.new (w.alloc (.cells #[.slice a m.eras.length cap, .int .i64 sl] 42)) [.slice a' m.eras.length cap', .int .i64 sl] 42
 have e1 : (w.alloc (.cells #[.slice a m.eras.length cap, .int .i64 sl] 42)).heap.size = w.heap.size + 1 := by simp
 rw [e1] at Y0
 clear e1 hu hv
 go_enter Tryz.func43, Tryz.ntmps43
 go_wp2_with fail
 refine (dU C1 _ (hb0 _ _)).mono ?_
 rintro e w1 ⟨rfl, b1⟩
 have B1 := bT (hb0 _ _) b1
 have k1 := X0.below b1 1 _ rfl
 have j1 := Y0.below b1 1 _ rfl
 clear X0 Y0 b1 hb0 C1
 go_wp2
 go_ret
 exact ⟨rfl, B1⟩
theorem lft_neg {q : Int} {n : Nat} (h0 : 0 ≤ q) (h : lft q n < 0) : lft q n = -1 := by
 unfold lft at h ⊢
 split
 ·rfl
 ·rename_i h2; rw [if_neg h2] at h; omega
theorem szIntS_b (v : Value) (xs : List Int) (left : Int) (l0 : 0 ≤ left) (l1 : left ≤ 1048576) (w : World) (hv : Ns w v xs) :
  Calls Tryz.prog 21 #[v, .int .i64 left] w fun r w' => r = .returned (.int .i64 (lft left xs.length)) ∧ Below w.heap.size w w' :=
 (szIntS_any v xs left l0 l1 w hv).mono fun r w' ⟨h, e⟩ => ⟨h, by subst e; exact Below.refl _ _⟩
set_option maxHeartbeats 2000000 in
theorem szIntSS_any (v : Value) (ms : List (List Int)) (left : Int) (l0 : 0 ≤ left) (l1 : left ≤ 1048576) (w : World) (hv : RdIntSS v ms w) :
  Calls Tryz.prog 101 #[v, .int .i64 left] w fun r w' => r = .returned (.int .i64 (lft left (sizIntSS ms))) ∧ Below w.heap.size w w' := by
 obtain ⟨rs, rfl, hr, hn⟩ := hv
 have HV := dH fun W (hb : Below w.heap.size w W) => hr.below hb
 have HN : Hid (∀ W, Below w.heap.size w W → ∀ k (hk : k < rs.length), Ns W (.slice rs[k].a rs[k].m.length rs[k].c) rs[k].m) := fun W hb k hk => (hn _ (List.getElem_mem hk)).below hb
 obtain ⟨h0, a, cap, rfl, -, -⟩ := hr
 have e0 : sizIntSS (rs.map Nst.m) = rs.length + sumL (rs.map Nst.m) := by unfold sizIntSS; rw [List.length_map]
 rw [e0]
 clear hn e0
 by_cases hl : left < (rs.length : Int)
 ·have e1 : lft left (rs.length + sumL (rs.map Nst.m)) = -1 := lft_no (by omega)
  rw [e1]
  have hd : left - (rs.length : Int) < 0 := by omega
  clear HV HN e1
  go_enter Tryz.func101, Tryz.ntmps101
  go_wp2
  go_ret
  exact ⟨rfl, Below.refl _ _⟩
 ·have hd : ¬ left - (rs.length : Int) < 0 := by omega
  have hs3 := sumL_le (rs.map Nst.m)
  have hs4 : sumL ((rs.map Nst.m).take rs.length) = sumL (rs.map Nst.m) := by rw [List.take_of_length_le (by rw [List.length_map]; omega)]
  generalize sumL (rs.map Nst.m) = SB at *
  have LN : Hid (left < ((rs.length + SB : Nat) : Int) → lft left (rs.length + SB) = -1) := lft_no
  have LY : Hid (¬ left < ((rs.length + SB : Nat) : Int) → lft left (rs.length + SB) = left - ((rs.length + SB : Nat) : Int)) := lft_yes
  generalize lft left (rs.length + SB) = M at *
  have HS3 := dH hs3
  have HS4 := dH hs4
  clear hs3 hs4
  go_enter Tryz.func101, Tryz.ntmps101
  go_wp2
  go_loopw [5, 1] (fun x y wr => ∃ (k : Nat) (q : Int), x = .int .i64 (k : Int) ∧ y = .int .i64 q ∧ k ≤ rs.length ∧ 0 ≤ q ∧ q ≤ 1048576 ∧ Hid (q = left - (rs.length : Int) - (sumL ((rs.map Nst.m).take k) : Int)) ∧ Below w.heap.size w wr) (fun x _ _ => rs.length - (intOf x).toNat)
  case atStart => exact ⟨0, _, rfl, rfl, Nat.zero_le _, by omega, by omega, by simp [Hid, sumL], Below.refl _ _⟩
  case round =>
   obtain ⟨k, q, rfl, rfl, hk, q0, q1, hq, hb⟩ := hrel
   by_cases hlt : (k : Int) < (rs.length : Int)
   ·have hkl : k < rs.length := by omega
    obtain ⟨b, off, rfl, hc⟩ := (dU HV wr hb).ls hkl
    have hs := sumL_take (rs.map Nst.m) k (by simpa using hkl)
    have hs2 := dU HS3 (k + 1)
    rw [List.getElem_map] at hs
    have CE := dH fun W (hB : Below wr.heap.size wr W) => szIntS_b _ rs[k].m q q0 q1 W (dU HN W (bT hb hB) k hkl)
    have c0 := hc k hkl
    have hq' := dU hq
    generalize rs[k] = y at *
    obtain ⟨ya, yc, yn⟩ := y
    simp only at *
    by_cases hn : q < (yn.length : Int)
    ·rw [lft_no hn] at CE
     have e1 := dU LN (by omega)
     subst e1
     clear hc HV HN HS3 HS4 hq' hq hs hs2 hn LN LY
     go_wp2_with fail
     refine (dU CE _ (Below.refl _ _)).mono ?_
     rintro r w2 ⟨rfl, b2⟩
     have hb2 := bT hb b2
     clear CE b2 c0 hb
     go_wp2
     go_ret
     exact ⟨rfl, hb2⟩
    ·rw [lft_yes hn] at CE
     have e1 : Hid (q - (yn.length : Int) = left - (rs.length : Int) - (sumL ((rs.map Nst.m).take (k + 1)) : Int)) := by rw [Hid, hs]; omega
     have q0' : 0 ≤ q - (yn.length : Int) := by omega
     have q1' : q - (yn.length : Int) ≤ 1048576 := by omega
     generalize q - (yn.length : Int) = q' at *
     have hd' : ¬ q' < 0 := by omega
     clear hc hq' hq hs hs2 hn
     go_wp2_with fail
     refine (dU CE _ (Below.refl _ _)).mono ?_
     rintro r w2 ⟨rfl, b2⟩
     have hb2 := bT hb b2
     clear CE b2 c0 hb
     go_wp2
     go_roundw
     case rel => exact ⟨k + 1, q', by go_num, rfl, by omega, q0', q1', e1, hb2⟩
     case measure => simp [intOf]; omega
   ·have e1 : k = rs.length := by omega
    have hq' := dU hq
    rw [e1, dU HS4] at hq'
    have e2 := dU LY (by omega)
    have e3 : Hid (q = M) := by rw [Hid, e2, hq']; omega
    clear hq hq' e1 e2 LN LY HV HN HS3 HS4
    go_wp2
    go_ret
    exact ⟨by rw [← dU e3]; rfl, hb⟩
set_option maxHeartbeats 2000000 in
theorem szMend_ (v : Value) (m : Mn) (left : Int) (l0 : 0 ≤ left) (l1 : left ≤ 1048576) (ht : txtE m.seen) (w : World) (h : RdMend v m w) :
  Calls Tryz.prog 61 #[v, .int .i64 left] w fun e w' => e = .returned (.int .i64 (lft left (sizMend m))) ∧ Below w.heap.size w w' := by
 have hb0 : ∀ o, Below w.heap.size w (w.alloc o) := fun o => (Below.refl _ _).alloc (Nat.le_refl _) o
 have hS := h
 obtain ⟨sv, ev, wv, rfl, h1, h2, h3⟩ := hS
 have C1 := dH fun W (hb : Below w.heap.size w W) => szIntS_b sv m.sealed left l0 l1 W (h1.below hb)
 have C2 := dH fun (q : Int) (q0 : 0 ≤ q) (q1 : q ≤ 1048576) W (hb : Below w.heap.size w W) => szEntryS_ ev m.seen q q0 q1 ht W (RdEntryS.below h2 hb)
 have C3 := dH fun (q : Int) (q0 : 0 ≤ q) (q1 : q ≤ 1048576) W (hb : Below w.heap.size w W) => szIntSS_any wv m.wrote q q0 q1 W (RdK.below h3 hb)
 obtain ⟨h0, sa, sc, rfl, -, -⟩ := h1
 obtain ⟨ea, ec, rfl, h4⟩ := formEntryS h2
 obtain ⟨wa, wc, rfl, h5⟩ := formK h3
 have e0 : sizMend m = m.sealed.length + (sizEntryS m.seen + sizIntSS m.wrote) := rfl
 rw [e0]
 clear h h2 h3 e0
 generalize sizEntryS m.seen = n2 at *
 generalize sizIntSS m.wrote = n3 at *
 generalize m.bye = f0 at *
 generalize m.epoch = f1 at *
 generalize m.planned = f4 at *
 generalize m.seen.length = l3 at *
 generalize m.wrote.length = l5 at *
 have X0 := dH fun o => fun W (hb : Below (w.alloc o).heap.size (w.alloc o) W) => hb
 by_cases d1 : left < (m.sealed.length : Int)
 ·rw [lft_no d1] at C1
  rw [lft_no (show left < ((m.sealed.length + (n2 + n3) : Nat) : Int) by omega)]
  clear C2 C3 X0
  go_enter Tryz.func61, Tryz.ntmps61
  go_wp2_with fail
  refine (dU C1 _ (hb0 _)).mono ?_
  rintro r w1 ⟨rfl, b1⟩
  have B1 := bT (hb0 _) b1
  clear b1 hb0 C1
  go_wp2
  go_ret
  exact ⟨rfl, B1⟩
 ·rw [lft_yes d1] at C1
  have C2 := dH fun W hb => dU C2 (left - (m.sealed.length : Int)) (by omega) (by omega) W hb
  have hq0 : ¬ left - (m.sealed.length : Int) < 0 := by omega
  by_cases d2 : left - (m.sealed.length : Int) < (n2 : Int)
  ·rw [lft_no d2] at C2
   rw [lft_no (show left < ((m.sealed.length + (n2 + n3) : Nat) : Int) by omega)]
   generalize left - (m.sealed.length : Int) = q1 at *
   clear C3 X0
   go_enter Tryz.func61, Tryz.ntmps61
   go_wp2_with fail
   have T0 := Bx.new w [.int .i64 f0, .int .i64 f1, .slice sa m.sealed.length sc, .slice ea l3 ec, .bool f4, .slice wa l5 wc] 115
   refine (dU C1 _ (hb0 _)).mono ?_
   rintro r w1 ⟨rfl, b1⟩
   have B1 := bT (hb0 _) b1
   have T1 := T0.below b1
   have k3 := T1 3 _ rfl
   clear b1 hb0 C1 T0 T1
   go_wp2_with fail
   refine (dU C2 _ B1).mono ?_
   rintro r w2 ⟨rfl, b2⟩
   have B2 := bT B1 b2
   clear b2 k3 C2
   go_wp2
   go_ret
   exact ⟨rfl, B2⟩
  ·rw [lft_yes d2] at C2
   have C3 := dH fun W hb => dU C3 (left - (m.sealed.length : Int) - (n2 : Int)) (by omega) (by omega) W hb
   have hq1 : ¬ left - (m.sealed.length : Int) - (n2 : Int) < 0 := by omega
   have eL : Hid (lft left (m.sealed.length + (n2 + n3)) = lft (left - (m.sealed.length : Int) - (n2 : Int)) n3) := by
    unfold lft
    rw [Hid]
    by_cases h2 : left - (m.sealed.length : Int) - (n2 : Int) < (n3 : Int)
    ·rw [if_pos h2, if_pos (by omega)]
    ·rw [if_neg h2, if_neg (by omega)]; omega
   have HL : Hid (lft (left - (m.sealed.length : Int) - (n2 : Int)) n3 < 0 → lft (left - (m.sealed.length : Int) - (n2 : Int)) n3 = -1) := lft_neg (by omega)
   rw [dU eL]
   generalize lft (left - (m.sealed.length : Int) - (n2 : Int)) n3 = M at *
   generalize left - (m.sealed.length : Int) - (n2 : Int) = q2 at *
   generalize left - (m.sealed.length : Int) = q1 at *
   clear X0 eL
   go_enter Tryz.func61, Tryz.ntmps61
   go_wp2_with fail
   have T0 := Bx.new w [.int .i64 f0, .int .i64 f1, .slice sa m.sealed.length sc, .slice ea l3 ec, .bool f4, .slice wa l5 wc] 115
   refine (dU C1 _ (hb0 _)).mono ?_
   rintro r w1 ⟨rfl, b1⟩
   have B1 := bT (hb0 _) b1
   have T1 := T0.below b1
   have k3 := T1 3 _ rfl
   clear b1 hb0 C1 T0
   go_wp2_with fail
   refine (dU C2 _ B1).mono ?_
   rintro r w2 ⟨rfl, b2⟩
   have B2 := bT B1 b2
   have T2 := T1.below b2
   have k5 := T2 5 _ rfl
   clear b2 k3 C2 T1 T2
   go_wp2_with fail
   refine (dU C3 _ B2).mono ?_
   rintro r w3 ⟨rfl, b3⟩
   have B3 := bT B2 b3
   clear b3 k5 C3
   by_cases hM : M < 0
   ·have e1 := dU HL hM
    subst e1
    go_wp2
    go_ret
    exact ⟨rfl, B3⟩
   ·go_wp2
    go_ret
    exact ⟨rfl, B3⟩
set_option maxHeartbeats 4000000 in
theorem eqIntSS_ (u v : Value) (m : List (List Int)) (w : World) (hu : RdIntSS u m w) (hv : RdIntSS v m w) :
  Calls Tryz.prog 151 #[u, v] w fun e w' => e = .returned (.bool true) ∧ Below w.heap.size w w' := by
 obtain ⟨rs, e1, hr, hn⟩ := hu
 obtain ⟨ss, e2, hs, hp⟩ := hv
 have el : rs.length = ss.length := by rw [← List.length_map (f := Nst.m), e1, ← e2, List.length_map]
 have em : Hid (∀ k (h : k < rs.length) (h' : k < ss.length), rs[k].m = ss[k].m) := fun k h h' => by
  have q1 : (rs.map Nst.m)[k]? = (ss.map Nst.m)[k]? := by rw [e1, e2]
  rw [List.getElem?_map, List.getElem?_map, List.getElem?_eq_getElem h, List.getElem?_eq_getElem h'] at q1
  simpa using q1
 have HU := dH fun W (hb : Below w.heap.size w W) => hr.below hb
 have HV := dH fun W (hb : Below w.heap.size w W) => hs.below hb
 have HN : Hid (∀ W, Below w.heap.size w W → ∀ k (hk : k < rs.length), Ns W (.slice rs[k].a rs[k].m.length rs[k].c) rs[k].m) := fun W hb k hk => (hn _ (List.getElem_mem hk)).below hb
 have HP : Hid (∀ W, Below w.heap.size w W → ∀ k (hk : k < ss.length), Ns W (.slice ss[k].a ss[k].m.length ss[k].c) ss[k].m) := fun W hb k hk => (hp _ (List.getElem_mem hk)).below hb
 obtain ⟨h0, a, cap, rfl, -, -⟩ := hr
 obtain ⟨h0', a', cap', rfl, -, -⟩ := hs
 rw [← el]
 have EL := dH el
 clear hn hp e1 e2 el h0'
 go_enter Tryz.func151, Tryz.ntmps151
 go_wp2
 go_loopw [5] (fun i wr => ∃ k : Nat, i = .int .i64 (k : Int) ∧ k ≤ rs.length ∧ Below w.heap.size w wr) (fun i _ => rs.length - (intOf i).toNat)
 case atStart => exact ⟨0, rfl, Nat.zero_le _, Below.refl _ _⟩
 case round =>
  obtain ⟨k, rfl, hk, hb⟩ := hrel
  by_cases hlt : (k : Int) < (rs.length : Int)
  ·have hkl : k < rs.length := by omega
   have hkl' : k < ss.length := by rw [← dU EL]; exact hkl
   obtain ⟨b, off, rfl, hc⟩ := (dU HU wr hb).ls hkl
   obtain ⟨b', off', rfl, hc'⟩ := (dU HV wr hb).ls hkl'
   have c0 := hc k hkl
   have e0 := hc' k hkl'
   have em' := dU em k hkl hkl'
   have CE : Hid (∀ W, Below wr.heap.size wr W → Calls Tryz.prog 42 #[.slice rs[k].a rs[k].m.length rs[k].c, .slice ss[k].a ss[k].m.length ss[k].c] W fun r w' => r = .returned (.bool true) ∧ Below W.heap.size W w') := fun W hB => eqIntS_yes _ _ rs[k].m W (dU HN W (bT hb hB) k hkl) (by rw [em']; exact dU HP W (bT hb hB) k hkl')
   generalize rs[k] = y at *
   generalize ss[k] = y' at *
   obtain ⟨ya, yc, yn⟩ := y
   obtain ⟨za, zc, zn⟩ := y'
   simp only at *
   clear hc hc' HU HV HN HP em em'
   have hbr : Below wr.heap.size wr wr.drew := (Below.refl _ _).drew
   have p0 := And.intro c0 e0
   have HE : Hid (∀ W, Below wr.heap.size wr W → W.cell? ⟨b, off + k, none⟩ = some (.slice ya yn.length yc) ∧ W.cell? ⟨b', off' + k, none⟩ = some (.slice za zn.length zc)) := fun W hB => ⟨(hB.cell (p := ⟨b, off + k, none⟩) (dCell_lt c0)).trans c0, (hB.cell (p := ⟨b', off' + k, none⟩) (dCell_lt e0)).trans e0⟩
   go_wp2_with fail
   go_region_held3 (fun W => W.cell? ⟨b, off + k, none⟩ = some (.slice ya yn.length yc) ∧ W.cell? ⟨b', off' + k, none⟩ = some (.slice za zn.length zc)) (first | exact p5 | exact p0 | exact dU HE _ hbr | go_keep)
    (first
     | (go_at_call 42; refine (dU CE _ hbr).mono ?_; rintro r w5 ⟨rfl, b5⟩; have hb5 := bT hbr b5; have p5 := dU HE _ hb5))
   all_goals
    go_wp2
    go_roundw
    case rel => exact ⟨k + 1, by go_num, by omega, bT hb hb5⟩
    case measure => simp [intOf]; omega
  ·clear HU HV HN HP em
   go_wp2
   go_ret
   exact ⟨rfl, hb⟩
set_option maxHeartbeats 4000000 in
theorem eqMend_ (u v : Value) (m : Mn) (w : World) (hu : RdMend u m w) (hv : RdMend v m w) :
  Calls Tryz.prog 88 #[u, v] w fun e w' => e = .returned (.bool true) ∧ Below w.heap.size w w' := by
 have hb0 : ∀ o o', Below w.heap.size w ((w.alloc o).alloc o') := fun o o' => ((Below.refl _ _).alloc (Nat.le_refl _) o).alloc (by simp) o'
 obtain ⟨s1, n1, w1, rfl, a1, a2, a3⟩ := hu
 obtain ⟨s2, n2, w2, rfl, b1, b2, b3⟩ := hv
 have C1 := dH fun W (hb : Below w.heap.size w W) => eqIntS_yes s1 s2 m.sealed W (a1.below hb) (b1.below hb)
 have C2 := dH fun W (hb : Below w.heap.size w W) => eqEntryS_ n1 n2 m.seen W (RdEntryS.below a2 hb) (RdEntryS.below b2 hb)
 have C3 := dH fun W (hb : Below w.heap.size w W) => eqIntSS_ w1 w2 m.wrote W (RdK.below a3 hb) (RdK.below b3 hb)
 obtain ⟨-, sa, sc, rfl, -, -⟩ := a1
 obtain ⟨-, sa', sc', rfl, -, -⟩ := b1
 obtain ⟨ea, ec, rfl, -⟩ := formEntryS a2
 obtain ⟨ea', ec', rfl, -⟩ := formEntryS b2
 obtain ⟨wa, wc, rfl, -⟩ := formK a3
 obtain ⟨wa', wc', rfl, -⟩ := formK b3
 clear a2 a3 b2 b3
 generalize m.bye = f0 at *
 generalize m.epoch = f1 at *
 generalize m.planned = f4 at *
 generalize m.sealed.length = l2 at *
 generalize m.seen.length = l3 at *
 generalize m.wrote.length = l5 at *
 have X0 := (Bx.new w [.int .i64 f0, .int .i64 f1, .slice sa l2 sc, .slice ea l3 ec, .bool f4, .slice wa l5 wc] 133).below ((Below.refl _ _).alloc (Nat.le_refl _) (.cells #[.int .i64 f0, .int .i64 f1, .slice sa' l2 sc', .slice ea' l3 ec', .bool f4, .slice wa' l5 wc'] 133))
 have Y0 := Bx.new (w.alloc (.cells #[.int .i64 f0, .int .i64 f1, .slice sa l2 sc, .slice ea l3 ec, .bool f4, .slice wa l5 wc] 133)) [.int .i64 f0, .int .i64 f1, .slice sa' l2 sc', .slice ea' l3 ec', .bool f4, .slice wa' l5 wc'] 133
 have e1 : (w.alloc (.cells #[.int .i64 f0, .int .i64 f1, .slice sa l2 sc, .slice ea l3 ec, .bool f4, .slice wa l5 wc] 133)).heap.size = w.heap.size + 1 := by simp
 rw [e1] at Y0
 clear e1
 go_enter Tryz.func88, Tryz.ntmps88
 go_wp2_with fail
 refine (dU C1 _ (hb0 _ _)).mono ?_
 rintro e w1 ⟨rfl, b1⟩
 have B1 := bT (hb0 _ _) b1
 have X1 := X0.below b1
 have Y1 := Y0.below b1
 have k3 := X1 3 _ rfl
 have j3 := Y1 3 _ rfl
 clear X0 Y0 b1 hb0 C1
 go_wp2_with fail
 refine (dU C2 _ B1).mono ?_
 rintro e w2 ⟨rfl, b2⟩
 have B2 := bT B1 b2
 have X2 := X1.below b2
 have Y2 := Y1.below b2
 have k4 := X2 4 _ rfl
 have j4 := Y2 4 _ rfl
 have k5 := X2 5 _ rfl
 have j5 := Y2 5 _ rfl
 clear X1 Y1 b2 C2 k3 j3
 go_wp2_with fail
 refine (dU C3 _ B2).mono ?_
 rintro e w3 ⟨rfl, b3⟩
 have B3 := bT B2 b3
 clear X2 Y2 b3 C3 k4 j4 k5 j5
 go_wp2
 go_ret
 exact ⟨rfl, B3⟩
end Go.Proofs.YtkiclbbialadlaaGreat
