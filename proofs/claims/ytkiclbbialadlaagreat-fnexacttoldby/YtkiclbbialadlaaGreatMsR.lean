/- Rows of mends, as the exact laws handle them (printed by tools/mkrow.py). -/
import Derived.Test.YtkiclbbialadlaaGreatMnSb
import Derived.Test.YtkiclbbialadlaaGreatGz20
import Derived.Deep.RegionHeld3
import Derived.Deep.DeepCutAuto
import Derived.Laws.MakeOwn
namespace Go.Proofs.YtkiclbbialadlaaGreat
open Go.ChangeShapes Go.WideShapes Go.ChangeAt Go.RowKit
set_option linter.unusedVariables false
set_option linter.unusedSimpArgs false
set_option maxRecDepth 100000

def RdMendS (v : Value) (ms : List Mn) (W : World) : Prop := RdD 6 RdMend v ms W
def OwMendS (lo hi : Nat) (v : Value) (ms : List Mn) (W : World) : Prop := OwD 6 OwMend lo hi v ms W
def sizMendS (ms : List Mn) : Nat := sizD sizMend ms
theorem RdMendS.below {v : Value} {ms : List Mn} {W W' : World} (h : RdMendS v ms W) (b : Below W.heap.size W W') : RdMendS v ms W' := RdD.below (Rd := RdMend) (fun h b => RdMend.below h b) h b
theorem OwMendS.rd {lo hi : Nat} {v : Value} {ms : List Mn} {W : World} (h : OwMendS lo hi v ms W) : RdMendS v ms W := OwD.rd (Rd := RdMend) (Ow := OwMend) (fun h => OwMend.rd h) h
theorem sitsOfMend : SitsOf OwMend := fun h hf => OwMend.sits h hf
theorem OwMend.wideD {lo hi lo' : Nat} {v : Value} {m : Mn} {w : World} (h : OwMend lo hi v m w) (h1 : lo' ≤ lo) : OwMend lo' hi v m w := by
 obtain ⟨sv, ev, wv, rs, e, e2, a, b, c, d⟩ := h
 exact ⟨sv, ev, wv, rs, e, e2, a.wide h1 (Nat.le_refl _), b.wide h1 (Nat.le_refl _), c.wide h1 (Nat.le_refl _), d⟩
set_option maxHeartbeats 2000000 in
theorem szMendS_ (v : Value) (ms : List Mn) (left : Int) (l0 : 0 ≤ left) (l1 : left ≤ 1048576) (hf : ∀ m ∈ ms, txtE m.seen) (w : World) (hv : RdMendS v ms w) :
  Calls Tryz.prog 24 #[v, .int .i64 left] w fun r w' => r = .returned (.int .i64 (lft left (sizMendS ms))) ∧ Below w.heap.size w w' := by
 obtain ⟨rs, rfl, hr, hn⟩ := hv
 have HV := dH fun W (hb : Below w.heap.size w W) => hr.below hb
 have HN := dH fun W (hb : Below w.heap.size w W) k (hk : k < rs.length) => (hn _ (List.getElem_mem hk)).below hb
 have HT : Hid (∀ k (hk : k < rs.length), txtE rs[k].m.seen) := fun k hk => hf _ (List.mem_map.2 ⟨_, List.getElem_mem hk, rfl⟩)
 obtain ⟨h0, a, cap, rfl, -, -⟩ := hr
 have e0 : sizMendS (rs.map Pd.m) = rs.length + sumPd sizMend (rs.map Pd.m) := by unfold sizMendS sizD; rw [List.length_map]
 rw [e0]
 clear hn e0 hf
 by_cases hl : left < (rs.length : Int)
 ·have e1 : lft left (rs.length + sumPd sizMend (rs.map Pd.m)) = -1 := lft_no (by omega)
  rw [e1]
  have hd : left - (rs.length : Int) < 0 := by omega
  clear HV HN e1 HT
  go_enter Tryz.func24, Tryz.ntmps24
  go_wp2
  go_ret
  exact ⟨rfl, Below.refl _ _⟩
 ·have hd : ¬ left - (rs.length : Int) < 0 := by omega
  have LN : Hid (left < ((rs.length + sumPd sizMend (rs.map Pd.m) : Nat) : Int) → lft left (rs.length + sumPd sizMend (rs.map Pd.m)) = -1) := lft_no
  have LY : Hid (¬ left < ((rs.length + sumPd sizMend (rs.map Pd.m) : Nat) : Int) → lft left (rs.length + sumPd sizMend (rs.map Pd.m)) = left - ((rs.length + sumPd sizMend (rs.map Pd.m) : Nat) : Int)) := lft_yes
  generalize lft left (rs.length + sumPd sizMend (rs.map Pd.m)) = M at *
  go_enter Tryz.func24, Tryz.ntmps24
  go_wp2
  go_loopw [5, 1] (fun x y wr => ∃ (k : Nat) (q : Int), x = .int .i64 (k : Int) ∧ y = .int .i64 q ∧ k ≤ rs.length ∧ 0 ≤ q ∧ q ≤ 1048576 ∧ Hid (q = left - (rs.length : Int) - (sumPd sizMend ((rs.map Pd.m).take k) : Int)) ∧ Below w.heap.size w wr) (fun x _ _ => rs.length - (intOf x).toNat)
  case atStart => exact ⟨0, _, rfl, rfl, Nat.zero_le _, by omega, by omega, by simp [Hid, sumPd], Below.refl _ _⟩
  case round =>
   obtain ⟨k, q, rfl, rfl, hk, q0, q1, hq, hb⟩ := hrel
   by_cases hlt : (k : Int) < (rs.length : Int)
   ·have hkl : k < rs.length := by omega
    obtain ⟨b, off, rfl, hc⟩ := (dU HV wr hb).pd hkl
    have hs := sumPd_take sizMend (rs.map Pd.m) k (by simpa using hkl)
    have hs2 := sumPd_le sizMend (rs.map Pd.m) (k + 1)
    rw [List.getElem_map] at hs
    have CE := dH fun W (hB : Below wr.heap.size wr W) => szMend_ rs[k].val rs[k].m q q0 q1 (dU HT k hkl) W (dU HN W (bT hb hB) k hkl)
    have hF := formMend (dU HN wr hb k hkl)
    have hck := hc k hkl
    have hq' := dU hq
    generalize rs[k] = y at *
    obtain ⟨yc, yl, m⟩ := y
    obtain ⟨xsa, xsc, xea, xec, xwa, xwc, hF, -, -, -⟩ := hF
    have hF := Pd.eq hF
    simp only at hF
    subst hF
    unfold Pd.val at CE
    simp only at *
    have c0 := hck 0 _ rfl
    have c1 := hck 1 _ rfl
    have c2 := hck 2 _ rfl
    have c3 := hck 3 _ rfl
    have c4 := hck 4 _ rfl
    have c5 := hck 5 _ rfl
    simp only [Nat.add_zero] at c0 c1 c2 c3 c4 c5
    clear hck
    by_cases hn : q < (sizMend m : Int)
    ·rw [lft_no hn] at CE
     have e1 := dU LN (by omega)
     subst e1
     clear hc HV HN hq' hq hs hs2 hn LN LY HT
     go_wp2_with fail
     refine (dU CE _ (Below.refl _ _)).mono ?_
     rintro r w2 ⟨rfl, b2⟩
     have hb2 := bT hb b2
     clear CE b2 c0 c1 c2 c3 c4 c5 hb
     go_wp2
     go_ret
     exact ⟨rfl, hb2⟩
    ·rw [lft_yes hn] at CE
     have e1 : Hid (q - (sizMend m : Int) = left - (rs.length : Int) - (sumPd sizMend ((rs.map Pd.m).take (k + 1)) : Int)) := by rw [Hid, hs]; omega
     have q0' : 0 ≤ q - (sizMend m : Int) := by omega
     have q1' : q - (sizMend m : Int) ≤ 1048576 := by omega
     generalize q - (sizMend m : Int) = q' at *
     have hd' : ¬ q' < 0 := by omega
     clear hc hq' hq hs hs2 hn HT
     go_wp2_with fail
     refine (dU CE _ (Below.refl _ _)).mono ?_
     rintro r w2 ⟨rfl, b2⟩
     have hb2 := bT hb b2
     clear CE b2 c0 c1 c2 c3 c4 c5 hb
     go_wp2
     go_roundw
     case rel => exact ⟨k + 1, q', by go_num, rfl, by omega, q0', q1', e1, hb2⟩
     case measure => simp [intOf]; omega
   ·have e1 : (rs.map Pd.m).take k = rs.map Pd.m := List.take_of_length_le (by rw [List.length_map]; omega)
    have hq' := dU hq
    rw [e1] at hq'
    have e2 := dU LY (by omega)
    have e3 : Hid (q = M) := by rw [Hid, e2, hq']; omega
    clear hq hq' e1 e2 LN LY HV HN HT
    go_wp2
    go_ret
    exact ⟨by rw [← dU e3]; rfl, hb⟩
set_option maxHeartbeats 4000000 in
theorem eqMendS_ (u v : Value) (ms : List Mn) (w : World) (hu : RdMendS u ms w) (hv : RdMendS v ms w) :
  Calls Tryz.prog 45 #[u, v] w fun e w' => e = .returned (.bool true) ∧ Below w.heap.size w w' := by
 obtain ⟨rs, e1, hr, hn⟩ := hu
 obtain ⟨ss, e2, hs, hp⟩ := hv
 have el : rs.length = ss.length := by rw [← List.length_map (f := Pd.m), e1, ← e2, List.length_map]
 have em : Hid (∀ k (h : k < rs.length) (h' : k < ss.length), rs[k].m = ss[k].m) := fun k h h' => by
  have q1 : (rs.map Pd.m)[k]? = (ss.map Pd.m)[k]? := by rw [e1, e2]
  rw [List.getElem?_map, List.getElem?_map, List.getElem?_eq_getElem h, List.getElem?_eq_getElem h'] at q1
  simpa using q1
 have HU := dH fun W (hb : Below w.heap.size w W) => hr.below hb
 have HV := dH fun W (hb : Below w.heap.size w W) => hs.below hb
 have HN := dH fun W (hb : Below w.heap.size w W) k (hk : k < rs.length) => (hn _ (List.getElem_mem hk)).below hb
 have HP := dH fun W (hb : Below w.heap.size w W) k (hk : k < ss.length) => (hp _ (List.getElem_mem hk)).below hb
 obtain ⟨h0, a, cap, rfl, -, -⟩ := hr
 obtain ⟨h0', a', cap', rfl, -, -⟩ := hs
 rw [← el]
 have EL := dH el
 clear hn hp e1 e2 el h0'
 go_enter Tryz.func45, Tryz.ntmps45
 go_wp2
 go_loopw [5] (fun i wr => ∃ k : Nat, i = .int .i64 (k : Int) ∧ k ≤ rs.length ∧ Below w.heap.size w wr) (fun i _ => rs.length - (intOf i).toNat)
 case atStart => exact ⟨0, rfl, Nat.zero_le _, Below.refl _ _⟩
 case round =>
  obtain ⟨k, rfl, hk, hb⟩ := hrel
  by_cases hlt : (k : Int) < (rs.length : Int)
  ·have hkl : k < rs.length := by omega
   have hkl' : k < ss.length := by rw [← dU EL]; exact hkl
   obtain ⟨b, off, rfl, hc⟩ := (dU HU wr hb).pd hkl
   obtain ⟨b', off', rfl, hc'⟩ := (dU HV wr hb).pd hkl'
   have hck := hc k hkl
   have hdk := hc' k hkl'
   have hF := formMend (dU HN wr hb k hkl)
   have hG := formMend (dU HP wr hb k hkl')
   have CE := dH fun W (hB : Below wr.heap.size wr W) => eqMend_ rs[k].val ss[k].val rs[k].m W (dU HN W (bT hb hB) k hkl) (by rw [dU em k hkl hkl']; exact dU HP W (bT hb hB) k hkl')
   generalize rs[k] = y at *
   generalize ss[k] = y' at *
   obtain ⟨yc, yl, m⟩ := y
   obtain ⟨yc', yl', m'⟩ := y'
   obtain ⟨xsa, xsc, xea, xec, xwa, xwc, hF, -, -, -⟩ := hF
   obtain ⟨zsa, zsc, zea, zec, zwa, zwc, hG, -, -, -⟩ := hG
   have hF := Pd.eq hF
   have hG := Pd.eq hG
   simp only at hF hG
   subst hF hG
   unfold Pd.val at CE
   simp only at *
   have c0 := hck 0 _ rfl
   have e0 := hdk 0 _ rfl
   have c1 := hck 1 _ rfl
   have e1 := hdk 1 _ rfl
   have c2 := hck 2 _ rfl
   have e2 := hdk 2 _ rfl
   have c3 := hck 3 _ rfl
   have e3 := hdk 3 _ rfl
   have c4 := hck 4 _ rfl
   have e4 := hdk 4 _ rfl
   have c5 := hck 5 _ rfl
   have e5 := hdk 5 _ rfl
   simp only [Nat.add_zero] at c0 c1 c2 c3 c4 c5 e0 e1 e2 e3 e4 e5
   clear hck hdk hc hc' HU HV HN HP em
   generalize m.bye = n0 at *
   generalize m.epoch = n1 at *
   generalize m.sealed.length = n2 at *
   generalize m.seen.length = n3 at *
   generalize m.planned = n4 at *
   generalize m.wrote.length = n5 at *
   generalize m'.bye = n6 at *
   generalize m'.epoch = n7 at *
   generalize m'.sealed.length = n8 at *
   generalize m'.seen.length = n9 at *
   generalize m'.planned = n10 at *
   generalize m'.wrote.length = n11 at *
   have KB : Hid (∀ W, Below wr.heap.size wr W → (W.cell? ⟨b, off + k * 6, none⟩ = some (.int .i64 n0) ∧ W.cell? ⟨b, off + k * 6 + 1, none⟩ = some (.int .i64 n1) ∧ W.cell? ⟨b, off + k * 6 + 2, none⟩ = some (.slice xsa n2 xsc) ∧ W.cell? ⟨b, off + k * 6 + 3, none⟩ = some (.slice xea n3 xec) ∧ W.cell? ⟨b, off + k * 6 + 4, none⟩ = some (.bool n4) ∧ W.cell? ⟨b, off + k * 6 + 5, none⟩ = some (.slice xwa n5 xwc)) ∧ W.cell? ⟨b', off' + k * 6, none⟩ = some (.int .i64 n6) ∧ W.cell? ⟨b', off' + k * 6 + 1, none⟩ = some (.int .i64 n7) ∧ W.cell? ⟨b', off' + k * 6 + 2, none⟩ = some (.slice zsa n8 zsc) ∧ W.cell? ⟨b', off' + k * 6 + 3, none⟩ = some (.slice zea n9 zec) ∧ W.cell? ⟨b', off' + k * 6 + 4, none⟩ = some (.bool n10) ∧ W.cell? ⟨b', off' + k * 6 + 5, none⟩ = some (.slice zwa n11 zwc)) := fun W hB => by
    have cb : ∀ {bb oo : Nat} {vv : Value}, wr.cell? ⟨bb, oo, none⟩ = some vv → W.cell? ⟨bb, oo, none⟩ = some vv := fun {bb oo vv} h => (hB.cell (p := ⟨bb, oo, none⟩) (dCell_lt h)).trans h
    exact ⟨⟨cb c0, cb c1, cb c2, cb c3, cb c4, cb c5⟩, cb e0, cb e1, cb e2, cb e3, cb e4, cb e5⟩
   have hbr : Below wr.heap.size wr wr.drew := (Below.refl _ _).drew
   go_wp2_with fail
   go_region_held3 (fun W => (W.cell? ⟨b, off + k * 6, none⟩ = some (.int .i64 n0) ∧ W.cell? ⟨b, off + k * 6 + 1, none⟩ = some (.int .i64 n1) ∧ W.cell? ⟨b, off + k * 6 + 2, none⟩ = some (.slice xsa n2 xsc) ∧ W.cell? ⟨b, off + k * 6 + 3, none⟩ = some (.slice xea n3 xec) ∧ W.cell? ⟨b, off + k * 6 + 4, none⟩ = some (.bool n4) ∧ W.cell? ⟨b, off + k * 6 + 5, none⟩ = some (.slice xwa n5 xwc)) ∧ W.cell? ⟨b', off' + k * 6, none⟩ = some (.int .i64 n6) ∧ W.cell? ⟨b', off' + k * 6 + 1, none⟩ = some (.int .i64 n7) ∧ W.cell? ⟨b', off' + k * 6 + 2, none⟩ = some (.slice zsa n8 zsc) ∧ W.cell? ⟨b', off' + k * 6 + 3, none⟩ = some (.slice zea n9 zec) ∧ W.cell? ⟨b', off' + k * 6 + 4, none⟩ = some (.bool n10) ∧ W.cell? ⟨b', off' + k * 6 + 5, none⟩ = some (.slice zwa n11 zwc)) (first | exact dU KB _ hb5 | go_keep)
    (first
     | (go_at_call 88; refine (dU CE _ hbr).mono ?_; rintro r w5 ⟨rfl, b5⟩; have hb5 := bT hbr b5))
   all_goals
    go_wp2
    go_roundw
    case rel => exact ⟨k + 1, by go_num, by omega, bT hb hb5⟩
    case measure => simp [intOf]; omega
  ·clear HU HV HN HP em
   go_wp2
   go_ret
   exact ⟨rfl, hb⟩
theorem makeMendS (n : Nat) (h : n ≤ 1073741824) (w : World) : (Instr.makeSlice 44 (.int .i64 (n : Int)) (.int .i64 (n : Int))).run Tryz.prog w = .ok (.slice (some ⟨w.heap.size, 0, none⟩) n n) (w.alloc (.cells (madeCells (Value.agg #[.int .i64 0, .int .i64 0, .slice none 0 0, .slice none 0 0, .bool false, .slice none 0 0]).cells (n * 6)) 133)) := by
 obtain ⟨i0, hi, hz0, hz1, hz2⟩ := info_parts (show (Tryz.prog.info? 133).map (fun i => (i.zero, i.size, i.bytes)) = some (some (.agg #[.int .i64 0, .int .i64 0, .slice none 0 0, .slice none 0 0, .bool false, .slice none 0 0]), 6, 96) from by kernel_rfl)
 have := run_make (P := Tryz.prog) w 44 133 i0 _ Tryz.underlying44 hi hz0 .i64 .i64 (n : Int) (n : Int) (by omega) (by omega) (by rw [hz2]; omega) (by omega)
 rw [hz1] at this
 simpa using this
def zeroMendS : Pd 6 Mn := ⟨[.int .i64 0, .int .i64 0, .slice none 0 0, .slice none 0 0, .bool false, .slice none 0 0], rfl, ⟨0, 0, [], [], false, []⟩⟩
set_option maxHeartbeats 4000000 in
theorem toMendS_ (v : Value) (ms : List Mn) (w : World) (hl : sizMendS ms ≤ 1048576) (hv : RdMendS v ms w) :
  Calls Tryz.prog 33 #[v] w fun e w' => ∃ u, e = .returned u ∧ Sits (OwMendS w.heap.size w'.heap.size u ms) w.heap.size w'.heap.size w' ∧ Below w.heap.size w w' := by
 obtain ⟨rs, rfl, hr, hn⟩ := hv
 have hlen : rs.length ≤ 1048576 := by unfold sizMendS sizD at hl; rw [List.length_map] at hl; omega
 have HS : Hid (∀ k (hk : k < rs.length), sizMend rs[k].m ≤ 1048576) := fun k hk => by
  have h1 := sumPd_mem sizMend (ms := rs.map Pd.m) (k := k) (by simpa using hk)
  rw [List.getElem_map] at h1
  unfold sizMendS sizD at hl
  omega
 have HV := dH fun W (hb : Below w.heap.size w W) => hr.below hb
 have HN := dH fun W (hb : Below w.heap.size w W) k (hk : k < rs.length) => (hn _ (List.getElem_mem hk)).below hb
 obtain ⟨h0, a, cap, rfl, -, -⟩ := hr
 have hmk := makeMendS rs.length (by omega)
 clear hn hl
 go_enter Tryz.func33, Tryz.ntmps33
 go_wp2
 go_loopw [4] (fun x wr => ∃ (k : Nat) (f : Nat → Pd 6 Mn) (s : Nat → Nat), x = .int .i64 (k : Int) ∧ k ≤ rs.length ∧ Hid (CopD OwMend wr w.heap.size rs k f s) ∧ w.heap.size < wr.heap.size ∧ Below w.heap.size w wr) (fun x _ => rs.length - (intOf x).toNat)
 case atStart => exact ⟨0, fun _ => zeroMendS, fun _ => w.heap.size + 1, rfl, Nat.zero_le _, CopD.start w _ rs 133 zeroMendS rfl (by kernel_rfl), by simp, (Below.refl _ _).alloc (Nat.le_refl _) _⟩
 case round =>
  obtain ⟨k, f, s, rfl, hk, hz, hsz, hb⟩ := hrel
  by_cases hlt : (k : Int) < (rs.length : Int)
  ·have hkl : k < rs.length := by omega
   obtain ⟨b, off, rfl, hc⟩ := (dU HV wr hb).pd hkl
   have CE := dH fun W (hB : Below wr.heap.size wr W) => toMend_ rs[k].val rs[k].m W (dU HS k hkl) (dU HN W (bT hb hB) k hkl)
   have hin : Hid (∀ (w2 : World) (e : Pd 6 Mn), Below wr.heap.size wr w2 → e.m = rs[k].m → OwMend wr.heap.size w2.heap.size e.val e.m w2 → CopD OwMend (setAll w.heap.size (0 + k * 6) 0 e.c w2) w.heap.size rs (k + 1) (putG f k e) (fun i => if i ≤ k then s i else w2.heap.size)) := fun w2 e hB he ho => CopD.step (Ow := OwMend) sitsOfMend (fun h h1 => OwMend.wideD h h1) (dU hz) hkl hB hsz e he ho
   have hrow : Hid (∀ W, Below wr.heap.size wr W → RowG 6 Pd.c W w.heap.size 0 rs.length f) := fun W hB => (dU hz).1.below hB
   have hfk := (f k).l
   have hF := formMend (dU HN wr hb k hkl)
   have hck := hc k hkl
   generalize rs[k] = y at *
   obtain ⟨yc, yl, m⟩ := y
   obtain ⟨xsa, xsc, xea, xec, xwa, xwc, hF, -, -, -⟩ := hF
   have hF := Pd.eq hF
   simp only at hF
   subst hF
   unfold Pd.val at CE
   simp only at *
   have c0 := hck 0 _ rfl
   have c1 := hck 1 _ rfl
   have c2 := hck 2 _ rfl
   have c3 := hck 3 _ rfl
   have c4 := hck 4 _ rfl
   have c5 := hck 5 _ rfl
   simp only [Nat.add_zero] at c0 c1 c2 c3 c4 c5
   clear hc hz hck
   go_wp2_with fail
   refine (dU CE _ (Below.refl _ _)).mono ?_
   rintro r w2 ⟨u, rfl, so, b2⟩
   have ho := so.now
   obtain ⟨qsa, qsc, qea, qec, qwa, qwc, rfl, -, -, -⟩ := formMend ho.rd
   have Z2 := dU hrow w2 b2 k hkl
   obtain ⟨z0, f0⟩ := Z2 0 _ (List.getElem?_eq_getElem (by rw [hfk]; decide))
   obtain ⟨z1, f1⟩ := Z2 1 _ (List.getElem?_eq_getElem (by rw [hfk]; decide))
   obtain ⟨z2, f2⟩ := Z2 2 _ (List.getElem?_eq_getElem (by rw [hfk]; decide))
   obtain ⟨z3, f3⟩ := Z2 3 _ (List.getElem?_eq_getElem (by rw [hfk]; decide))
   obtain ⟨z4, f4⟩ := Z2 4 _ (List.getElem?_eq_getElem (by rw [hfk]; decide))
   obtain ⟨z5, f5⟩ := Z2 5 _ (List.getElem?_eq_getElem (by rw [hfk]; decide))
   simp only [Nat.zero_add, Nat.add_zero] at z0 f0 z1 f1 z2 f2 z3 f3 z4 f4 z5 f5
   have Z3 := dU hin w2 ⟨[.int .i64 m.bye, .int .i64 m.epoch, .slice qsa m.sealed.length qsc, .slice qea m.seen.length qec, .bool m.planned, .slice qwa m.wrote.length qwc], rfl, m⟩ b2 rfl ho
   simp only [setAll, Nat.zero_add, Nat.add_zero, Nat.reduceAdd] at Z3
   have Z4 := dH Z3
   have hb2 := bT hb b2
   have hb3 := dH ((((((hb2.setCell (p := ⟨w.heap.size, k * 6, none⟩) (Nat.le_refl _) (.int .i64 m.bye)).setCell (p := ⟨w.heap.size, k * 6 + 1, none⟩) (Nat.le_refl _) (.int .i64 m.epoch)).setCell (p := ⟨w.heap.size, k * 6 + 2, none⟩) (Nat.le_refl _) (.slice qsa m.sealed.length qsc)).setCell (p := ⟨w.heap.size, k * 6 + 3, none⟩) (Nat.le_refl _) (.slice qea m.seen.length qec)).setCell (p := ⟨w.heap.size, k * 6 + 4, none⟩) (Nat.le_refl _) (.bool m.planned)).setCell (p := ⟨w.heap.size, k * 6 + 5, none⟩) (Nat.le_refl _) (.slice qwa m.wrote.length qwc))
   have hs2 : w.heap.size < ((((((w2.setCell ⟨w.heap.size, k * 6, none⟩ (.int .i64 m.bye)).setCell ⟨w.heap.size, k * 6 + 1, none⟩ (.int .i64 m.epoch)).setCell ⟨w.heap.size, k * 6 + 2, none⟩ (.slice qsa m.sealed.length qsc)).setCell ⟨w.heap.size, k * 6 + 3, none⟩ (.slice qea m.seen.length qec)).setCell ⟨w.heap.size, k * 6 + 4, none⟩ (.bool m.planned)).setCell ⟨w.heap.size, k * 6 + 5, none⟩ (.slice qwa m.wrote.length qwc)).heap.size := by simpa using Nat.lt_of_lt_of_le hsz b2.size
   generalize (f k).c[0] = o0 at *
   generalize (f k).c[1] = o1 at *
   generalize (f k).c[2] = o2 at *
   generalize (f k).c[3] = o3 at *
   generalize (f k).c[4] = o4 at *
   generalize (f k).c[5] = o5 at *
   clear CE b2 c0 c1 c2 c3 c4 c5 hb hrow Z2 hb2 hin ho so Z3 hfk
   go_wp2
   go_roundw
   case rel => exact ⟨k + 1, _, _, by go_num, by omega, dU Z4, hs2, dU hb3⟩
   case measure => simp [intOf]; omega
  ·have O : Hid (Sits (OwMendS w.heap.size wr.heap.size (.slice (some ⟨w.heap.size, 0, none⟩) rs.length rs.length) (rs.map Pd.m)) w.heap.size wr.heap.size wr) := by
    obtain rfl : k = rs.length := by omega
    exact CopD.done (Ow := OwMend) sitsOfMend (dU hz) h0
   clear hz HV HN HS
   go_wp2
   go_ret
   exact ⟨_, rfl, dU O, hb⟩
end Go.Proofs.YtkiclbbialadlaaGreat
