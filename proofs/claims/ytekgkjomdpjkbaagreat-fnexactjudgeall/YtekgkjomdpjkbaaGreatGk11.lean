/- Several texts in one: RsR, MpT. -/
import Derived.Test.YtekgkjomdpjkbaaGreatGk18
import Derived.Test.YtekgkjomdpjkbaaGreatGz20
import Derived.Deep.RegionHeld3
import Derived.Deep.DeepCutAuto
import Derived.Laws.MakeOwn
import Derived.Test.YtekgkjomdpjkbaaGreatGaG
import Derived.Maps.RangeWalk
import Derived.Carry
namespace Go.Proofs.YtekgkjomdpjkbaaGreat
open Go.ChangeShapes Go.WideShapes Go.ChangeAt Go.RowKit
set_option linter.unusedSimpArgs false
set_option linter.unusedVariables false
set_option maxRecDepth 100000
def RdReaderS (v : Value) (ms : List Rr) (W : World) : Prop := RdD 3 RdReader v ms W
def OwReaderS (lo hi : Nat) (v : Value) (ms : List Rr) (W : World) : Prop := OwD 3 OwReader lo hi v ms W
def sizReaderS (ms : List Rr) : Nat := sizD sizReader ms
theorem RdReaderS.below {v : Value} {ms : List Rr} {W W' : World} (h : RdReaderS v ms W) (b : Below W.heap.size W W') : RdReaderS v ms W' := RdD.below (Rd := RdReader) (fun h b => RdReader.below h b) h b
theorem OwReaderS.rd {lo hi : Nat} {v : Value} {ms : List Rr} {W : World} (h : OwReaderS lo hi v ms W) : RdReaderS v ms W := OwD.rd (Rd := RdReader) (Ow := OwReader) (fun h => OwReader.rd h) h
theorem sitsOfReader : SitsOf OwReader := fun h hf => OwReader.sits h hf
theorem OwReader.wideD {lo hi lo' : Nat} {v : Value} {m : Rr} {w : World} (h : OwReader lo hi v m w) (h1 : lo' ≤ lo) : OwReader lo' hi v m w := by
 obtain ⟨sv, e, h⟩ := h
 exact ⟨sv, e, OwG.wide h h1 (Nat.le_refl _)⟩
set_option maxHeartbeats 2000000 in
theorem szReaderS_ (v : Value) (ms : List Rr) (left : Int) (l0 : 0 ≤ left) (l1 : left ≤ 1048576) (hf : ∀ m ∈ ms, txtEv m.out) (w : World) (hv : RdReaderS v ms w) :
  Calls Tryz.prog 30 #[v, .int .i64 left] w fun r w' => r = .returned (.int .i64 (lft left (sizReaderS ms))) ∧ Below w.heap.size w w' := by
 obtain ⟨rs, rfl, hr, hn⟩ := hv
 have HV := dH fun W (hb : Below w.heap.size w W) => hr.below hb
 have HN := dH fun W (hb : Below w.heap.size w W) k (hk : k < rs.length) => (hn _ (List.getElem_mem hk)).below hb
 have HT : Hid (∀ k (hk : k < rs.length), txtEv rs[k].m.out) := fun k hk => hf _ (List.mem_map.2 ⟨_, List.getElem_mem hk, rfl⟩)
 obtain ⟨h0, a, cap, rfl, -, -⟩ := hr
 have e0 : sizReaderS (rs.map Pd.m) = rs.length + sumPd sizReader (rs.map Pd.m) := by unfold sizReaderS sizD; rw [List.length_map]
 rw [e0]
 clear hn e0 hf
 by_cases hl : left < (rs.length : Int)
 ·have e1 : lft left (rs.length + sumPd sizReader (rs.map Pd.m)) = -1 := lft_no (by omega)
  rw [e1]
  have hd : left - (rs.length : Int) < 0 := by omega
  clear HV HN e1 HT
  go_enter Tryz.func30, Tryz.ntmps30
  go_wp2
  go_ret
  exact ⟨rfl, Below.refl _ _⟩
 ·have hd : ¬ left - (rs.length : Int) < 0 := by omega
  have LN : Hid (left < ((rs.length + sumPd sizReader (rs.map Pd.m) : Nat) : Int) → lft left (rs.length + sumPd sizReader (rs.map Pd.m)) = -1) := lft_no
  have LY : Hid (¬ left < ((rs.length + sumPd sizReader (rs.map Pd.m) : Nat) : Int) → lft left (rs.length + sumPd sizReader (rs.map Pd.m)) = left - ((rs.length + sumPd sizReader (rs.map Pd.m) : Nat) : Int)) := lft_yes
  generalize lft left (rs.length + sumPd sizReader (rs.map Pd.m)) = M at *
  go_enter Tryz.func30, Tryz.ntmps30
  go_wp2
  go_loopw [5, 1] (fun x y wr => ∃ (k : Nat) (q : Int), x = .int .i64 (k : Int) ∧ y = .int .i64 q ∧ k ≤ rs.length ∧ 0 ≤ q ∧ q ≤ 1048576 ∧ Hid (q = left - (rs.length : Int) - (sumPd sizReader ((rs.map Pd.m).take k) : Int)) ∧ Below w.heap.size w wr) (fun x _ _ => rs.length - (intOf x).toNat)
  case atStart => exact ⟨0, _, rfl, rfl, Nat.zero_le _, by omega, by omega, by simp [Hid, sumPd], Below.refl _ _⟩
  case round =>
   obtain ⟨k, q, rfl, rfl, hk, q0, q1, hq, hb⟩ := hrel
   by_cases hlt : (k : Int) < (rs.length : Int)
   ·have hkl : k < rs.length := by omega
    obtain ⟨b, off, rfl, hc⟩ := (dU HV wr hb).pd hkl
    have hs := sumPd_take sizReader (rs.map Pd.m) k (by simpa using hkl)
    have hs2 := sumPd_le sizReader (rs.map Pd.m) (k + 1)
    rw [List.getElem_map] at hs
    have CE := dH fun W (hB : Below wr.heap.size wr W) => szReader_ rs[k].val rs[k].m q q0 q1 (dU HT k hkl) W (dU HN W (bT hb hB) k hkl)
    have hF := formReader (dU HN wr hb k hkl)
    have hck := hc k hkl
    have hq' := dU hq
    generalize rs[k] = y at *
    obtain ⟨yc, yl, m⟩ := y
    obtain ⟨xa, xcap, hF, -⟩ := hF
    have hF := Pd.eq hF
    simp only at hF
    subst hF
    unfold Pd.val at CE
    simp only at *
    have c0 := hck 0 _ rfl
    have c1 := hck 1 _ rfl
    have c2 := hck 2 _ rfl
    simp only [Nat.add_zero] at c0 c1 c2
    clear hck
    by_cases hn : q < (sizReader m : Int)
    ·rw [lft_no hn] at CE
     have e1 := dU LN (by omega)
     subst e1
     clear hc HV HN hq' hq hs hs2 hn LN LY HT
     go_wp2_with fail
     refine (dU CE _ (Below.refl _ _)).mono ?_
     rintro r w2 ⟨rfl, b2⟩
     have hb2 := bT hb b2
     clear CE b2 c0 c1 c2 hb
     go_wp2
     go_ret
     exact ⟨rfl, hb2⟩
    ·rw [lft_yes hn] at CE
     have e1 : Hid (q - (sizReader m : Int) = left - (rs.length : Int) - (sumPd sizReader ((rs.map Pd.m).take (k + 1)) : Int)) := by rw [Hid, hs]; omega
     have q0' : 0 ≤ q - (sizReader m : Int) := by omega
     have q1' : q - (sizReader m : Int) ≤ 1048576 := by omega
     generalize q - (sizReader m : Int) = q' at *
     have hd' : ¬ q' < 0 := by omega
     clear hc hq' hq hs hs2 hn HT
     go_wp2_with fail
     refine (dU CE _ (Below.refl _ _)).mono ?_
     rintro r w2 ⟨rfl, b2⟩
     have hb2 := bT hb b2
     clear CE b2 c0 c1 c2 hb
     go_wp2
     go_roundw
     case rel => exact ⟨k + 1, q', by go_num, rfl, by omega, q0', q1', e1, hb2⟩
     case measure => simp [intOf]; omega
   ·have e1 : (rs.map Pd.m).take k = rs.map Pd.m := List.take_of_length_le (by rw [List.length_map]; omega)
    have hq' := dU hq
    rw [e1] at hq'
    have e2 := dU LY (by omega)
    have e3 : Hid (q = M) := by rw [Hid, e2, hq']; omega
    clear hq hq' e1 e2 LN LY HV HN HT
    go_wp2
    go_ret
    exact ⟨by rw [← dU e3]; rfl, hb⟩
set_option maxHeartbeats 4000000 in
theorem eqReaderS_ (u v : Value) (ms : List Rr) (w : World) (hu : RdReaderS u ms w) (hv : RdReaderS v ms w) :
  Calls Tryz.prog 49 #[u, v] w fun e w' => e = .returned (.bool true) ∧ Below w.heap.size w w' := by
 obtain ⟨rs, e1, hr, hn⟩ := hu
 obtain ⟨ss, e2, hs, hp⟩ := hv
 have el : rs.length = ss.length := by rw [← List.length_map (f := Pd.m), e1, ← e2, List.length_map]
 have em : Hid (∀ k (h : k < rs.length) (h' : k < ss.length), rs[k].m = ss[k].m) := fun k h h' => by
  have q1 : (rs.map Pd.m)[k]? = (ss.map Pd.m)[k]? := by rw [e1, e2]
  rw [List.getElem?_map, List.getElem?_map, List.getElem?_eq_getElem h, List.getElem?_eq_getElem h'] at q1
  simpa using q1
 have HU := dH fun W (hb : Below w.heap.size w W) => hr.below hb
 have HV := dH fun W (hb : Below w.heap.size w W) => hs.below hb
 have HN := dH fun W (hb : Below w.heap.size w W) k (hk : k < rs.length) => (hn _ (List.getElem_mem hk)).below hb
 have HP := dH fun W (hb : Below w.heap.size w W) k (hk : k < ss.length) => (hp _ (List.getElem_mem hk)).below hb
 obtain ⟨h0, a, cap, rfl, -, -⟩ := hr
 obtain ⟨h0', a', cap', rfl, -, -⟩ := hs
 rw [← el]
 have EL := dH el
 clear hn hp e1 e2 el h0'
 go_enter Tryz.func49, Tryz.ntmps49
 go_wp2
 go_loopw [5] (fun i wr => ∃ k : Nat, i = .int .i64 (k : Int) ∧ k ≤ rs.length ∧ Below w.heap.size w wr) (fun i _ => rs.length - (intOf i).toNat)
 case atStart => exact ⟨0, rfl, Nat.zero_le _, Below.refl _ _⟩
 case round =>
  obtain ⟨k, rfl, hk, hb⟩ := hrel
  by_cases hlt : (k : Int) < (rs.length : Int)
  ·have hkl : k < rs.length := by omega
   have hkl' : k < ss.length := by rw [← dU EL]; exact hkl
   obtain ⟨b, off, rfl, hc⟩ := (dU HU wr hb).pd hkl
   obtain ⟨b', off', rfl, hc'⟩ := (dU HV wr hb).pd hkl'
   have hck := hc k hkl
   have hdk := hc' k hkl'
   have hF := formReader (dU HN wr hb k hkl)
   have hG := formReader (dU HP wr hb k hkl')
   have CE := dH fun W (hB : Below wr.heap.size wr W) => eqReader_ rs[k].val ss[k].val rs[k].m W (dU HN W (bT hb hB) k hkl) (by rw [dU em k hkl hkl']; exact dU HP W (bT hb hB) k hkl')
   generalize rs[k] = y at *
   generalize ss[k] = y' at *
   obtain ⟨yc, yl, m⟩ := y
   obtain ⟨yc', yl', m'⟩ := y'
   obtain ⟨xa, xcap, hF, -⟩ := hF
   obtain ⟨za, zcap, hG, -⟩ := hG
   have hF := Pd.eq hF
   have hG := Pd.eq hG
   simp only at hF hG
   subst hF hG
   unfold Pd.val at CE
   simp only at *
   have c0 := hck 0 _ rfl
   have e0 := hdk 0 _ rfl
   have c1 := hck 1 _ rfl
   have e1 := hdk 1 _ rfl
   have c2 := hck 2 _ rfl
   have e2 := hdk 2 _ rfl
   simp only [Nat.add_zero] at c0 c1 c2 e0 e1 e2
   clear hck hdk hc hc' HU HV HN HP em
   generalize m.epoch = n0 at *
   generalize m.off = n1 at *
   generalize m.out.length = n2 at *
   generalize m'.epoch = n3 at *
   generalize m'.off = n4 at *
   generalize m'.out.length = n5 at *
   have KB : Hid (∀ W, Below wr.heap.size wr W → (W.cell? ⟨b, off + k * 3, none⟩ = some (.int .i64 n0) ∧ W.cell? ⟨b, off + k * 3 + 1, none⟩ = some (.int .i64 n1) ∧ W.cell? ⟨b, off + k * 3 + 2, none⟩ = some (.slice xa n2 xcap)) ∧ W.cell? ⟨b', off' + k * 3, none⟩ = some (.int .i64 n3) ∧ W.cell? ⟨b', off' + k * 3 + 1, none⟩ = some (.int .i64 n4) ∧ W.cell? ⟨b', off' + k * 3 + 2, none⟩ = some (.slice za n5 zcap)) := fun W hB => by
    have cb : ∀ {bb oo : Nat} {vv : Value}, wr.cell? ⟨bb, oo, none⟩ = some vv → W.cell? ⟨bb, oo, none⟩ = some vv := fun {bb oo vv} h => (hB.cell (p := ⟨bb, oo, none⟩) (dCell_lt h)).trans h
    exact ⟨⟨cb c0, cb c1, cb c2⟩, cb e0, cb e1, cb e2⟩
   have hbr : Below wr.heap.size wr wr.drew := (Below.refl _ _).drew
   go_wp2_with fail
   go_region_held3 (fun W => (W.cell? ⟨b, off + k * 3, none⟩ = some (.int .i64 n0) ∧ W.cell? ⟨b, off + k * 3 + 1, none⟩ = some (.int .i64 n1) ∧ W.cell? ⟨b, off + k * 3 + 2, none⟩ = some (.slice xa n2 xcap)) ∧ W.cell? ⟨b', off' + k * 3, none⟩ = some (.int .i64 n3) ∧ W.cell? ⟨b', off' + k * 3 + 1, none⟩ = some (.int .i64 n4) ∧ W.cell? ⟨b', off' + k * 3 + 2, none⟩ = some (.slice za n5 zcap)) (first | exact dU KB _ hb5 | go_keep)
    (first
     | (go_at_call 80; refine (dU CE _ hbr).mono ?_; rintro r w5 ⟨rfl, b5⟩; have hb5 := bT hbr b5))
   all_goals
    go_wp2
    go_roundw
    case rel => exact ⟨k + 1, by go_num, by omega, bT hb hb5⟩
    case measure => simp [intOf]; omega
  ·clear HU HV HN HP em
   go_wp2
   go_ret
   exact ⟨rfl, hb⟩
theorem makeReaderS (n : Nat) (h : n ≤ 1073741824) (w : World) : (Instr.makeSlice 44 (.int .i64 (n : Int)) (.int .i64 (n : Int))).run Tryz.prog w = .ok (.slice (some ⟨w.heap.size, 0, none⟩) n n) (w.alloc (.cells (madeCells (Value.agg #[.int .i64 0, .int .i64 0, .slice none 0 0]).cells (n * 3)) 62)) := by
 obtain ⟨i0, hi, hz0, hz1, hz2⟩ := info_parts (show (Tryz.prog.info? 62).map (fun i => (i.zero, i.size, i.bytes)) = some (some (.agg #[.int .i64 0, .int .i64 0, .slice none 0 0]), 3, 40) from by kernel_rfl)
 have := run_make (P := Tryz.prog) w 44 62 i0 _ Tryz.underlying44 hi hz0 .i64 .i64 (n : Int) (n : Int) (by omega) (by omega) (by rw [hz2]; omega) (by omega)
 rw [hz1] at this
 simpa using this
def zeroReaderS : Pd 3 Rr := ⟨[.int .i64 0, .int .i64 0, .slice none 0 0], rfl, ⟨0, 0, []⟩⟩
set_option maxHeartbeats 4000000 in
theorem toReaderS_ (v : Value) (ms : List Rr) (w : World) (hl : sizReaderS ms ≤ 1048576) (hv : RdReaderS v ms w) :
  Calls Tryz.prog 40 #[v] w fun e w' => ∃ u, e = .returned u ∧ Sits (OwReaderS w.heap.size w'.heap.size u ms) w.heap.size w'.heap.size w' ∧ Below w.heap.size w w' := by
 obtain ⟨rs, rfl, hr, hn⟩ := hv
 have hlen : rs.length ≤ 1048576 := by unfold sizReaderS sizD at hl; rw [List.length_map] at hl; omega
 have HS : Hid (∀ k (hk : k < rs.length), sizReader rs[k].m ≤ 1048576) := fun k hk => by
  have h1 := sumPd_mem sizReader (ms := rs.map Pd.m) (k := k) (by simpa using hk)
  rw [List.getElem_map] at h1
  unfold sizReaderS sizD at hl
  omega
 have HV := dH fun W (hb : Below w.heap.size w W) => hr.below hb
 have HN := dH fun W (hb : Below w.heap.size w W) k (hk : k < rs.length) => (hn _ (List.getElem_mem hk)).below hb
 obtain ⟨h0, a, cap, rfl, -, -⟩ := hr
 have hmk := makeReaderS rs.length (by omega)
 clear hn hl
 go_enter Tryz.func40, Tryz.ntmps40
 go_wp2
 go_loopw [4] (fun x wr => ∃ (k : Nat) (f : Nat → Pd 3 Rr) (s : Nat → Nat), x = .int .i64 (k : Int) ∧ k ≤ rs.length ∧ Hid (CopD OwReader wr w.heap.size rs k f s) ∧ w.heap.size < wr.heap.size ∧ Below w.heap.size w wr) (fun x _ => rs.length - (intOf x).toNat)
 case atStart => exact ⟨0, fun _ => zeroReaderS, fun _ => w.heap.size + 1, rfl, Nat.zero_le _, CopD.start w _ rs 62 zeroReaderS rfl (by kernel_rfl), by simp, (Below.refl _ _).alloc (Nat.le_refl _) _⟩
 case round =>
  obtain ⟨k, f, s, rfl, hk, hz, hsz, hb⟩ := hrel
  by_cases hlt : (k : Int) < (rs.length : Int)
  ·have hkl : k < rs.length := by omega
   obtain ⟨b, off, rfl, hc⟩ := (dU HV wr hb).pd hkl
   have CE := dH fun W (hB : Below wr.heap.size wr W) => toReader_ rs[k].val rs[k].m W (dU HS k hkl) (dU HN W (bT hb hB) k hkl)
   have hin : Hid (∀ (w2 : World) (e : Pd 3 Rr), Below wr.heap.size wr w2 → e.m = rs[k].m → OwReader wr.heap.size w2.heap.size e.val e.m w2 → CopD OwReader (setAll w.heap.size (0 + k * 3) 0 e.c w2) w.heap.size rs (k + 1) (putG f k e) (fun i => if i ≤ k then s i else w2.heap.size)) := fun w2 e hB he ho => CopD.step (Ow := OwReader) sitsOfReader (fun h h1 => OwReader.wideD h h1) (dU hz) hkl hB hsz e he ho
   have hrow : Hid (∀ W, Below wr.heap.size wr W → RowG 3 Pd.c W w.heap.size 0 rs.length f) := fun W hB => (dU hz).1.below hB
   have hfk := (f k).l
   have hF := formReader (dU HN wr hb k hkl)
   have hck := hc k hkl
   generalize rs[k] = y at *
   obtain ⟨yc, yl, m⟩ := y
   obtain ⟨xa, xcap, hF, -⟩ := hF
   have hF := Pd.eq hF
   simp only at hF
   subst hF
   unfold Pd.val at CE
   simp only at *
   have c0 := hck 0 _ rfl
   have c1 := hck 1 _ rfl
   have c2 := hck 2 _ rfl
   simp only [Nat.add_zero] at c0 c1 c2
   clear hc hz hck
   go_wp2_with fail
   refine (dU CE _ (Below.refl _ _)).mono ?_
   rintro r w2 ⟨u, rfl, so, b2⟩
   have ho := so.now
   obtain ⟨qa, qcap, rfl, -⟩ := formReader ho.rd
   have Z2 := dU hrow w2 b2 k hkl
   obtain ⟨z0, f0⟩ := Z2 0 _ (List.getElem?_eq_getElem (by rw [hfk]; decide))
   obtain ⟨z1, f1⟩ := Z2 1 _ (List.getElem?_eq_getElem (by rw [hfk]; decide))
   obtain ⟨z2, f2⟩ := Z2 2 _ (List.getElem?_eq_getElem (by rw [hfk]; decide))
   simp only [Nat.zero_add, Nat.add_zero] at z0 f0 z1 f1 z2 f2
   have Z3 := dU hin w2 ⟨[.int .i64 m.epoch, .int .i64 m.off, .slice qa m.out.length qcap], rfl, m⟩ b2 rfl ho
   simp only [setAll, Nat.zero_add, Nat.add_zero, Nat.reduceAdd] at Z3
   have Z4 := dH Z3
   have hb2 := bT hb b2
   have hb3 := dH (((hb2.setCell (p := ⟨w.heap.size, k * 3, none⟩) (Nat.le_refl _) (.int .i64 m.epoch)).setCell (p := ⟨w.heap.size, k * 3 + 1, none⟩) (Nat.le_refl _) (.int .i64 m.off)).setCell (p := ⟨w.heap.size, k * 3 + 2, none⟩) (Nat.le_refl _) (.slice qa m.out.length qcap))
   have hs2 : w.heap.size < (((w2.setCell ⟨w.heap.size, k * 3, none⟩ (.int .i64 m.epoch)).setCell ⟨w.heap.size, k * 3 + 1, none⟩ (.int .i64 m.off)).setCell ⟨w.heap.size, k * 3 + 2, none⟩ (.slice qa m.out.length qcap)).heap.size := by simpa using Nat.lt_of_lt_of_le hsz b2.size
   generalize (f k).c[0] = o0 at *
   generalize (f k).c[1] = o1 at *
   generalize (f k).c[2] = o2 at *
   clear CE b2 c0 c1 c2 hb hrow Z2 hb2 hin ho so Z3 hfk
   go_wp2
   go_roundw
   case rel => exact ⟨k + 1, _, _, by go_num, by omega, dU Z4, hs2, dU hb3⟩
   case measure => simp [intOf]; omega
  ·have O : Hid (Sits (OwReaderS w.heap.size wr.heap.size (.slice (some ⟨w.heap.size, 0, none⟩) rs.length rs.length) (rs.map Pd.m)) w.heap.size wr.heap.size wr) := by
    obtain rfl : k = rs.length := by omega
    exact CopD.done (Ow := OwReader) sitsOfReader (dU hz) h0
   clear hz HV HN HS
   go_wp2
   go_ret
   exact ⟨_, rfl, dU O, hb⟩
def evR : Value → Option (DataW Ev × List MemPlace)
  | .agg ⟨[.int .i64 k, .int .i64 p, .string d]⟩ => some (.held ⟨k, p, d⟩, [])
  | _ => none
theorem evR_mk (e : Ev) : evR e.val = some (.held e, []) := rfl
theorem evR_inv {v : Value} {z : DataW Ev × List MemPlace} (h : evR v = some z) : ∃ e : Ev, v = e.val ∧ z = (.held e, []) := by
  unfold evR at h
  split at h
  · simp only [Option.some.injEq] at h
    exact ⟨⟨_, _, _⟩, rfl, h.symm⟩
  · cases h
theorem zeroEvRun (w : World) : (zeroValue 81).run Tryz.prog w = .ok zeroEv.val w := by kernel_rfl
def evAt (l : List Ev) (z : Int) : Option Ev := l.find? fun e => decide (e.pl = z)
theorem evAt_mem {l : List Ev} {z : Int} {e : Ev} (h : evAt l z = some e) : e ∈ l ∧ e.pl = z := ⟨List.mem_of_find?_eq_some h, by simpa using List.find?_some h⟩
theorem evAt_snoc (l : List Ev) (x : Ev) (z : Int) : evAt (l ++ [x]) z = (evAt l z).or (if x.pl = z then some x else none) := by
  unfold evAt
  rw [List.find?_append]
  congr 1
  by_cases h : x.pl = z <;> simp [h]
theorem pl_inj {l : List Ev} (h1 : (l.map Ev.pl).Nodup) {x y : Ev} (hx : x ∈ l) (hy : y ∈ l) (e : x.pl = y.pl) : x = y := by
  obtain ⟨i, hi, rfl⟩ := List.getElem_of_mem hx
  obtain ⟨j, hj, rfl⟩ := List.getElem_of_mem hy
  have hP := List.pairwise_iff_getElem.1 h1
  rcases Nat.lt_trichotomy i j with h | h | h
  · exact absurd (by rw [List.getElem_map, List.getElem_map]; exact e) (hP i j (by simpa using hi) (by simpa using hj) h)
  · subst h; rfl
  · exact absurd (by rw [List.getElem_map, List.getElem_map]; exact e.symm) (hP j i (by simpa using hj) (by simpa using hi) h)
def TaleN (w : World) (b : Nat) (l : List Ev) : Prop :=
  (l.map Ev.pl).Nodup ∧ allInt (l.map Ev.pl) ∧ ∃ D : DataW Ev, w.ownsMap Tryz.prog 3 evR b l.length D ∧ Maps.size D = l.length ∧ (∀ z, Maps.has D (.int .i64 z) = (evAt l z).isSome) ∧ ∀ z, D.atKey (.int .i64 z) (.held zeroEv) = .held ((evAt l z).getD zeroEv)
theorem TaleN.lt {w : World} {b : Nat} {l : List Ev} (h : TaleN w b l) : b < w.heap.size := by
  obtain ⟨-, -, D, h, -⟩ := h
  exact h.lt
theorem TaleN.kept {w w' : World} {b : Nat} {l : List Ev} {row : Option Nat} (h : TaleN w b l) (hg : w.grownBy w' row) (hne : some b ≠ row) : TaleN w' b l := by
  obtain ⟨h1, h2, D, h3, h4⟩ := h
  exact ⟨h1, h2, D, h3.kept hg hne, h4⟩
theorem TaleN.below {w w' : World} {b : Nat} {l : List Ev} (h : TaleN w b l) (hb : Below w.heap.size w w') : TaleN w' b l := h.kept (grownBy_of_below hb) (by simp)
theorem TaleN.made (w : World) : TaleN (w.alloc (.map #[] 0)) w.heap.size [] := ⟨List.nodup_nil, (fun x h => by cases h), .map [], World.ownsMap_made _ _ _ _, rfl, fun z => rfl, fun z => rfl⟩
def RangeT (w : World) (b r : Nat) (l ys : List Ev) : Prop :=
  (l.map Ev.pl).Nodup ∧ allInt (l.map Ev.pl) ∧ (∀ y ∈ ys, y ∈ l) ∧ ∃ (D : DataW Ev) (left : Lit → Bool) (cnt : Nat), w.ranges Tryz.prog 3 evR b r l.length D left cnt ∧ (∀ z, Maps.has D (.int .i64 z) = (evAt l z).isSome) ∧ (∀ z, D.atKey (.int .i64 z) (.held zeroEv) = .held ((evAt l z).getD zeroEv)) ∧ ∀ z, left (.int .i64 z) = ((evAt l z).isSome && !decide (z ∈ ys.map Ev.pl))
theorem RangeT.lt {w : World} {b r : Nat} {l ys : List Ev} (h : RangeT w b r l ys) : r < w.heap.size := by
  obtain ⟨-, -, -, D, left, cnt, h3, -⟩ := h
  exact h3.lt
theorem RangeT.kept {w w' : World} {b r : Nat} {l ys : List Ev} {row : Option Nat} (h : RangeT w b r l ys) (hg : w.grownBy w' row) (hb : some b ≠ row) (hr : some r ≠ row) : RangeT w' b r l ys := by
  obtain ⟨h1, h2, h3, D, left, cnt, h5, h6⟩ := h
  exact ⟨h1, h2, h3, D, left, cnt, h5.kept hg hb hr, h6⟩
theorem RangeT.below {w w' : World} {b r : Nat} {l ys : List Ev} (h : RangeT w b r l ys) (hb : Below w.heap.size w w') : RangeT w' b r l ys := h.kept (grownBy_of_below hb) (by simp) (by simp)
theorem RangeT.left_below {w w' : World} {b r : Nat} {l ys : List Ev} (h : RangeT w b r l ys) (hb : Below w.heap.size w w') : w'.rangeLeft b r = w.rangeLeft b r := by
  obtain ⟨h1, h2, h3, D, left, cnt, h5, h6⟩ := h
  rw [(h5.kept (grownBy_of_below hb) (by simp) (by simp)).left_eq, h5.left_eq]
section
variable (w : World) {ops : Array Oper} {rest : List Oper} {o : Oper} {a : Act} {Q : Exit → Act → World → Prop}
theorem wp_talePut (hg : o.guard = none) (m x v : Operand) (hop : o.op = Op.mapUpdate 205 m x v) (b : Nat) (l : List Ev) (e : Ev) (hm : a.eval m = .map (some b)) (h : TaleN w b l)
    (hx : a.eval x = .int .i64 e.pl) (hz : -9223372036854775808 ≤ e.pl ∧ e.pl ≤ 9223372036854775807) (hv : a.eval v = e.val) (hl : l.length ≤ 1099511627776) (hn : evAt l e.pl = none)
    (hK : ∀ w', TaleN w' b (l ++ [e]) → w.grownBy w' (some b) → wpList Tryz.prog ops Q rest (a.put o.dst undef) w') : wpList Tryz.prog ops Q (o :: rest) a w := by
  obtain ⟨h1, h2, D, h3, h4, h5, h6⟩ := h
  refine wpList_mapUpdate_own _ hg m x v 205 hop 3 81 keyI Tryz.underlying205 evR b l.length D hm h3 (by unfold maxLen; omega) _ _ (.int .i64 e.pl) hx hv (keyOf_z hz) (.held e) [] (evR_mk e) ?_
  intro w' o1 g1
  have hni : e.pl ∉ l.map Ev.pl := fun hh => by
    obtain ⟨y, hy, ey⟩ := List.mem_map.1 hh
    have := List.find?_eq_none.1 hn y hy
    simp [ey] at this
  refine hK w' ⟨?_, fun y hy => ?_, D.put (.int .i64 e.pl) (.held e), ?_, ?_, fun z => ?_, fun z => ?_⟩ g1
  · rw [List.map_append]
    refine List.nodup_append.2 ⟨h1, by simp, fun p hp q hq => ?_⟩
    obtain rfl : q = e.pl := by simpa using hq
    intro ee
    exact hni (ee ▸ hp)
  · rw [List.map_append] at hy
    rcases List.mem_append.1 hy with hy | hy
    · exact h2 y hy
    · obtain rfl : y = e.pl := by simpa using hy
      exact hz
  · have ee : Maps.size (D.put (.int .i64 e.pl) (.held e)) = (l ++ [e]).length := by
      rw [Maps.size_put (h3.tidy keyI), h5, h4, hn]
      simp
    rw [← ee]
    obtain ⟨es, clock, hb, F, hs, e'⟩ := o1
    rw [e']
    exact ⟨es, clock, hb, F, by simp [Maps.size, length_sorted], rfl⟩
  · rw [Maps.size_put (h3.tidy keyI), h5, h4, hn]
    simp
  · by_cases hy : z = e.pl
    · subst hy
      rw [Maps.has_put_same h3.isMap (keyI.key (keyOf_z hz)), evAt_snoc, hn]
      simp
    · rw [Maps.has_put_other (by simpa using hy), h5 z, evAt_snoc, if_neg (fun h => hy h.symm)]
      simp
  · by_cases hy : z = e.pl
    · subst hy
      rw [Maps.atKey_put_same h3.isMap (keyI.key (keyOf_z hz)), evAt_snoc, hn]
      simp
    · rw [Maps.atKey_put_other (by simpa using hy), h6 z, evAt_snoc, if_neg (fun h => hy h.symm)]
      simp
theorem wp_taleHas (hg : o.guard = none) (m x : Operand) (hop : o.op = Op.lookup 205 m x true) (b : Nat) (l : List Ev) (z : Int) (hm : a.eval m = .map (some b)) (h : TaleN w b l)
    (hx : a.eval x = .int .i64 z) (hz : -9223372036854775808 ≤ z ∧ z ≤ 9223372036854775807)
    (hK : wpList Tryz.prog ops Q rest (a.put o.dst (.tuple #[((evAt l z).getD zeroEv).val, .bool (evAt l z).isSome])) w) : wpList Tryz.prog ops Q (o :: rest) a w := by
  obtain ⟨h1, h2, D, h3, h4, h5, h6⟩ := h
  refine wpList_lookup_own_ok _ hg m x 205 hop 3 81 keyI Tryz.underlying205 evR (zeroEvRun _) (.held zeroEv) [] (evR_mk _) b l.length D hm h3 _ (.int .i64 z) hx (keyOf_z hz) ?_
  intro v ps hv
  obtain ⟨e, rfl, he⟩ := evR_inv hv
  rw [h6 z] at he
  simp only [Prod.mk.injEq, DataW.held.injEq] at he
  rw [h5 z, ← he.1]
  exact hK
theorem lookT (b : Nat) (l : List Ev) (z : Int) (h : TaleN w b l) (hz : -9223372036854775808 ≤ z ∧ z ≤ 9223372036854775807) : (Instr.lookup 205 (.map (some b)) (.int .i64 z) false).run Tryz.prog w = .ok ((evAt l z).getD zeroEv).val w := by
  obtain ⟨h1, h2, D, h3, h4, h5, h6⟩ := h
  obtain ⟨v, ps, hrun, hv⟩ := h3.lookup keyI Tryz.underlying205 (zeroEvRun _) (evR_mk _) (keyOf_z hz)
  obtain ⟨e, rfl, he⟩ := evR_inv hv
  rw [h6 z] at he
  simp only [Prod.mk.injEq, DataW.held.injEq] at he
  rw [← he.1] at hrun
  exact hrun
theorem wp_taleRange (hg : o.guard = none) (m : Operand) (hop : o.op = Op.range 205 m) (b : Nat) (l : List Ev) (hm : a.eval m = .map (some b)) (h : TaleN w b l)
    (hK : ∀ w', RangeT w' b w.heap.size l [] → w.grownBy w' none → w'.heap.size = w.heap.size + 1 → wpList Tryz.prog ops Q rest (a.put o.dst (.pointer (some ⟨w.heap.size, 0, none⟩))) w') : wpList Tryz.prog ops Q (o :: rest) a w := by
  obtain ⟨h1, h2, D, h3, h4, h5, h6⟩ := h
  refine wpList_range_own _ hg m 205 hop 3 81 keyI Tryz.underlying205 evR b l.length D hm h3 ?_
  intro w' r1 g1 s1
  exact hK w' ⟨h1, h2, (fun y h => by cases h), D, _, _, r1, h5, h6, fun z => by rw [h5 z]; simp⟩ g1 s1
theorem wp_taleNext (hg : o.guard = none) (it : Operand) (hop : o.op = Op.next it false) (b r : Nat) (l ys : List Ev) (hit : a.eval it = .pointer (some ⟨r, 0, none⟩)) (h : RangeT w b r l ys)
    (hDone : (∀ y ∈ l, y ∈ ys) → wpList Tryz.prog ops Q rest (a.put o.dst (.tuple #[.bool false])) w)
    (hMore : ∀ (x : Ev) (w' : World), x ∈ l → RangeT w' b r l (ys ++ [x]) → w'.rangeLeft b r < w.rangeLeft b r → w.grownBy w' (some r) →
      (Instr.entry (.pointer (some ⟨r, 0, none⟩))).run Tryz.prog w' = .ok (.tuple #[.int .i64 x.pl, x.val]) w' → wpList Tryz.prog ops Q rest (a.put o.dst (.tuple #[.bool true, .int .i64 x.pl, x.val])) w') : wpList Tryz.prog ops Q (o :: rest) a w := by
  obtain ⟨h1, h2, h3, D, left, cnt, h5, h6, h7, h8⟩ := h
  have inj : ∀ x ∈ l, ∀ y ∈ l, x.pl = y.pl → x = y := fun x hx y hy e => pl_inj h1 hx hy e
  have some_of : ∀ x ∈ l, evAt l x.pl = some x := fun x hx => by
    cases hq : evAt l x.pl with
    | none => have := List.find?_eq_none.1 hq x hx; simp at this
    | some y => rw [inj y (evAt_mem hq).1 x hx (evAt_mem hq).2]
  refine wpList_next_ranges (α := Int) (β := Ev) _ hg it hop 3 keyI evR (Value.int .i64) Ev.val (fun key kl hk => by obtain ⟨x, rfl, _⟩ := Maps.keyOf_int_inv Tryz.underlying3 hk; exact ⟨x, rfl⟩) (fun v y hv => by obtain ⟨e, rfl, _⟩ := evR_inv hv; exact ⟨e, rfl⟩) b r l.length D left cnt hit h5 ?_ ?_
  · intro hc hl0
    refine hDone fun y hy => ?_
    have := h8 y.pl
    rw [hl0, some_of y hy] at this
    simp at this
    obtain ⟨q, hq, e⟩ := this
    rw [← inj q (h3 q hq) y hy e]
    exact hq
  · intro x c kl y w' cnt' hkey hlk hv hat hrg hlt hgr hsz hen
    obtain ⟨x', ex, rfl, hwx⟩ := Maps.keyOf_int_inv Tryz.underlying3 hkey
    cases ex
    have hx := h8 x
    rw [hlk] at hx
    simp only [Bool.true_eq, Bool.and_eq_true, Bool.not_eq_true', decide_eq_false_iff_not] at hx
    obtain ⟨e, he⟩ := Option.isSome_iff_exists.1 hx.1
    have hy := hat (.held zeroEv)
    rw [h7 x, he] at hy
    have hv' := evR_mk c
    rw [hv'] at hv
    simp only [Option.some.injEq] at hv
    rw [← hv] at hy
    simp only [Option.getD_some, DataW.held.injEq] at hy
    subst hy
    obtain ⟨m1, m2⟩ := evAt_mem he
    subst m2
    refine hMore e w' m1 ⟨h1, h2, ?_, D, _, cnt', hrg, h6, h7, fun z => ?_⟩ (by rw [hrg.left_eq, h5.left_eq]; exact hlt) hgr hen
    · intro z hz
      rcases List.mem_append.1 hz with hz | hz
      · exact h3 z hz
      · obtain rfl : z = e := by simpa using hz
        exact m1
    · rw [h8 z]
      by_cases hzx : z = e.pl
      · subst hzx
        have : (Lit.int .i64 e.pl).sameKey (.int .i64 e.pl) = true := WideAt.sameKey_self (keyI.key hkey)
        simp [this]
      · have : (Lit.int .i64 z).sameKey (.int .i64 e.pl) = false := Maps.sameKey_ne (by simpa using hzx)
        simp [this, hzx]
end
end Go.Proofs.YtekgkjomdpjkbaaGreat
