/- Several texts in one: WsR, WoA, WoC. -/
import Derived.Test.YtkiclbbialadlaaGreatGk10
import Derived.Test.YtkiclbbialadlaaGreatGz20
import Derived.Deep.RegionHeld3
import Derived.Deep.DeepCutAuto
import Derived.Laws.MakeOwn
import Derived.Test.YtkiclbbialadlaaGreatGz16x
import Derived.Test.YtkiclbbialadlaaGreatSitS
import Derived.Test.YtkiclbbialadlaaGreatMsR
import Derived.Test.YtkiclbbialadlaaGreatRsR
import Derived.Test.YtkiclbbialadlaaGreatGz19
namespace Go.Proofs.YtkiclbbialadlaaGreat
open Go.ChangeShapes Go.WideShapes Go.ChangeAt Go.RowKit
set_option linter.unusedSimpArgs false
set_option linter.unusedVariables false
set_option maxRecDepth 100000
def RdWriterS (v : Value) (ms : List Wt) (W : World) : Prop := RdD 2 RdWriter v ms W
def OwWriterS (lo hi : Nat) (v : Value) (ms : List Wt) (W : World) : Prop := OwD 2 OwWriter lo hi v ms W
def sizWriterS (ms : List Wt) : Nat := sizD sizWriter ms
theorem RdWriterS.below {v : Value} {ms : List Wt} {W W' : World} (h : RdWriterS v ms W) (b : Below W.heap.size W W') : RdWriterS v ms W' := RdD.below (Rd := RdWriter) (fun h b => RdWriter.below h b) h b
theorem OwWriterS.rd {lo hi : Nat} {v : Value} {ms : List Wt} {W : World} (h : OwWriterS lo hi v ms W) : RdWriterS v ms W := OwD.rd (Rd := RdWriter) (Ow := OwWriter) (fun h => OwWriter.rd h) h
theorem sitsOfWriter : SitsOf OwWriter := fun h hf => OwWriter.sits h hf
theorem OwWriter.wideD {lo hi lo' : Nat} {v : Value} {m : Wt} {w : World} (h : OwWriter lo hi v m w) (h1 : lo' ≤ lo) : OwWriter lo' hi v m w := by
 obtain ⟨sv, e, h⟩ := h
 exact ⟨sv, e, OwK.wide h h1 (Nat.le_refl _)⟩
set_option maxHeartbeats 2000000 in
theorem szWriterS_ (v : Value) (ms : List Wt) (left : Int) (l0 : 0 ≤ left) (l1 : left ≤ 1048576) (hf : ∀ m ∈ ms, txtW m.words) (w : World) (hv : RdWriterS v ms w) :
  Calls Tryz.prog 23 #[v, .int .i64 left] w fun r w' => r = .returned (.int .i64 (lft left (sizWriterS ms))) ∧ Below w.heap.size w w' := by
 obtain ⟨rs, rfl, hr, hn⟩ := hv
 have HV := dH fun W (hb : Below w.heap.size w W) => hr.below hb
 have HN := dH fun W (hb : Below w.heap.size w W) k (hk : k < rs.length) => (hn _ (List.getElem_mem hk)).below hb
 have HT : Hid (∀ k (hk : k < rs.length), txtW rs[k].m.words) := fun k hk => hf _ (List.mem_map.2 ⟨_, List.getElem_mem hk, rfl⟩)
 obtain ⟨h0, a, cap, rfl, -, -⟩ := hr
 have e0 : sizWriterS (rs.map Pd.m) = rs.length + sumPd sizWriter (rs.map Pd.m) := by unfold sizWriterS sizD; rw [List.length_map]
 rw [e0]
 clear hn e0 hf
 by_cases hl : left < (rs.length : Int)
 ·have e1 : lft left (rs.length + sumPd sizWriter (rs.map Pd.m)) = -1 := lft_no (by omega)
  rw [e1]
  have hd : left - (rs.length : Int) < 0 := by omega
  clear HV HN e1 HT
  go_enter Tryz.func23, Tryz.ntmps23
  go_wp2
  go_ret
  exact ⟨rfl, Below.refl _ _⟩
 ·have hd : ¬ left - (rs.length : Int) < 0 := by omega
  have LN : Hid (left < ((rs.length + sumPd sizWriter (rs.map Pd.m) : Nat) : Int) → lft left (rs.length + sumPd sizWriter (rs.map Pd.m)) = -1) := lft_no
  have LY : Hid (¬ left < ((rs.length + sumPd sizWriter (rs.map Pd.m) : Nat) : Int) → lft left (rs.length + sumPd sizWriter (rs.map Pd.m)) = left - ((rs.length + sumPd sizWriter (rs.map Pd.m) : Nat) : Int)) := lft_yes
  generalize lft left (rs.length + sumPd sizWriter (rs.map Pd.m)) = M at *
  go_enter Tryz.func23, Tryz.ntmps23
  go_wp2
  go_loopw [5, 1] (fun x y wr => ∃ (k : Nat) (q : Int), x = .int .i64 (k : Int) ∧ y = .int .i64 q ∧ k ≤ rs.length ∧ 0 ≤ q ∧ q ≤ 1048576 ∧ Hid (q = left - (rs.length : Int) - (sumPd sizWriter ((rs.map Pd.m).take k) : Int)) ∧ Below w.heap.size w wr) (fun x _ _ => rs.length - (intOf x).toNat)
  case atStart => exact ⟨0, _, rfl, rfl, Nat.zero_le _, by omega, by omega, by simp [Hid, sumPd], Below.refl _ _⟩
  case round =>
   obtain ⟨k, q, rfl, rfl, hk, q0, q1, hq, hb⟩ := hrel
   by_cases hlt : (k : Int) < (rs.length : Int)
   ·have hkl : k < rs.length := by omega
    obtain ⟨b, off, rfl, hc⟩ := (dU HV wr hb).pd hkl
    have hs := sumPd_take sizWriter (rs.map Pd.m) k (by simpa using hkl)
    have hs2 := sumPd_le sizWriter (rs.map Pd.m) (k + 1)
    rw [List.getElem_map] at hs
    have CE := dH fun W (hB : Below wr.heap.size wr W) => szWriter_ rs[k].val rs[k].m q q0 q1 (dU HT k hkl) W (dU HN W (bT hb hB) k hkl)
    have hF := formWriter (dU HN wr hb k hkl)
    have hck := hc k hkl
    have hq' := dU hq
    generalize rs[k] = y at *
    obtain ⟨yc, yl, m⟩ := y
    obtain ⟨xa, xcap, hF, -⟩ := hF
    have hF := Pd.eq hF
    simp only at hF
    subst hF
    unfold Pd.val at CE
    simp only at *
    have c0 := hck 0 _ rfl
    have c1 := hck 1 _ rfl
    simp only [Nat.add_zero] at c0 c1
    clear hck
    by_cases hn : q < (sizWriter m : Int)
    ·rw [lft_no hn] at CE
     have e1 := dU LN (by omega)
     subst e1
     clear hc HV HN hq' hq hs hs2 hn LN LY HT
     go_wp2_with fail
     refine (dU CE _ (Below.refl _ _)).mono ?_
     rintro r w2 ⟨rfl, b2⟩
     have hb2 := bT hb b2
     clear CE b2 c0 c1 hb
     go_wp2
     go_ret
     exact ⟨rfl, hb2⟩
    ·rw [lft_yes hn] at CE
     have e1 : Hid (q - (sizWriter m : Int) = left - (rs.length : Int) - (sumPd sizWriter ((rs.map Pd.m).take (k + 1)) : Int)) := by rw [Hid, hs]; omega
     have q0' : 0 ≤ q - (sizWriter m : Int) := by omega
     have q1' : q - (sizWriter m : Int) ≤ 1048576 := by omega
     generalize q - (sizWriter m : Int) = q' at *
     have hd' : ¬ q' < 0 := by omega
     clear hc hq' hq hs hs2 hn HT
     go_wp2_with fail
     refine (dU CE _ (Below.refl _ _)).mono ?_
     rintro r w2 ⟨rfl, b2⟩
     have hb2 := bT hb b2
     clear CE b2 c0 c1 hb
     go_wp2
     go_roundw
     case rel => exact ⟨k + 1, q', by go_num, rfl, by omega, q0', q1', e1, hb2⟩
     case measure => simp [intOf]; omega
   ·have e1 : (rs.map Pd.m).take k = rs.map Pd.m := List.take_of_length_le (by rw [List.length_map]; omega)
    have hq' := dU hq
    rw [e1] at hq'
    have e2 := dU LY (by omega)
    have e3 : Hid (q = M) := by rw [Hid, e2, hq']; omega
    clear hq hq' e1 e2 LN LY HV HN HT
    go_wp2
    go_ret
    exact ⟨by rw [← dU e3]; rfl, hb⟩
set_option maxHeartbeats 4000000 in
theorem eqWriterS_ (u v : Value) (ms : List Wt) (w : World) (hu : RdWriterS u ms w) (hv : RdWriterS v ms w) :
  Calls Tryz.prog 44 #[u, v] w fun e w' => e = .returned (.bool true) ∧ Below w.heap.size w w' := by
 obtain ⟨rs, e1, hr, hn⟩ := hu
 obtain ⟨ss, e2, hs, hp⟩ := hv
 have el : rs.length = ss.length := by rw [← List.length_map (f := Pd.m), e1, ← e2, List.length_map]
 have em : Hid (∀ k (h : k < rs.length) (h' : k < ss.length), rs[k].m = ss[k].m) := fun k h h' => by
  have q1 : (rs.map Pd.m)[k]? = (ss.map Pd.m)[k]? := by rw [e1, e2]
  rw [List.getElem?_map, List.getElem?_map, List.getElem?_eq_getElem h, List.getElem?_eq_getElem h'] at q1
  simpa using q1
 have HU := dH fun W (hb : Below w.heap.size w W) => hr.below hb
 have HV := dH fun W (hb : Below w.heap.size w W) => hs.below hb
 have HN := dH fun W (hb : Below w.heap.size w W) k (hk : k < rs.length) => (hn _ (List.getElem_mem hk)).below hb
 have HP := dH fun W (hb : Below w.heap.size w W) k (hk : k < ss.length) => (hp _ (List.getElem_mem hk)).below hb
 obtain ⟨h0, a, cap, rfl, -, -⟩ := hr
 obtain ⟨h0', a', cap', rfl, -, -⟩ := hs
 rw [← el]
 have EL := dH el
 clear hn hp e1 e2 el h0'
 go_enter Tryz.func44, Tryz.ntmps44
 go_wp2
 go_loopw [5] (fun i wr => ∃ k : Nat, i = .int .i64 (k : Int) ∧ k ≤ rs.length ∧ Below w.heap.size w wr) (fun i _ => rs.length - (intOf i).toNat)
 case atStart => exact ⟨0, rfl, Nat.zero_le _, Below.refl _ _⟩
 case round =>
  obtain ⟨k, rfl, hk, hb⟩ := hrel
  by_cases hlt : (k : Int) < (rs.length : Int)
  ·have hkl : k < rs.length := by omega
   have hkl' : k < ss.length := by rw [← dU EL]; exact hkl
   obtain ⟨b, off, rfl, hc⟩ := (dU HU wr hb).pd hkl
   obtain ⟨b', off', rfl, hc'⟩ := (dU HV wr hb).pd hkl'
   have hck := hc k hkl
   have hdk := hc' k hkl'
   have hF := formWriter (dU HN wr hb k hkl)
   have hG := formWriter (dU HP wr hb k hkl')
   have CE := dH fun W (hB : Below wr.heap.size wr W) => eqWriter_ rs[k].val ss[k].val rs[k].m W (dU HN W (bT hb hB) k hkl) (by rw [dU em k hkl hkl']; exact dU HP W (bT hb hB) k hkl')
   generalize rs[k] = y at *
   generalize ss[k] = y' at *
   obtain ⟨yc, yl, m⟩ := y
   obtain ⟨yc', yl', m'⟩ := y'
   obtain ⟨xa, xcap, hF, -⟩ := hF
   obtain ⟨za, zcap, hG, -⟩ := hG
   have hF := Pd.eq hF
   have hG := Pd.eq hG
   simp only at hF hG
   subst hF hG
   unfold Pd.val at CE
   simp only at *
   have c0 := hck 0 _ rfl
   have e0 := hdk 0 _ rfl
   have c1 := hck 1 _ rfl
   have e1 := hdk 1 _ rfl
   simp only [Nat.add_zero] at c0 c1 e0 e1
   clear hck hdk hc hc' HU HV HN HP em
   generalize m.epoch = n0 at *
   generalize m.words.length = n1 at *
   generalize m'.epoch = n2 at *
   generalize m'.words.length = n3 at *
   have KB : Hid (∀ W, Below wr.heap.size wr W → (W.cell? ⟨b, off + k * 2, none⟩ = some (.int .i64 n0) ∧ W.cell? ⟨b, off + k * 2 + 1, none⟩ = some (.slice xa n1 xcap)) ∧ W.cell? ⟨b', off' + k * 2, none⟩ = some (.int .i64 n2) ∧ W.cell? ⟨b', off' + k * 2 + 1, none⟩ = some (.slice za n3 zcap)) := fun W hB => by
    have cb : ∀ {bb oo : Nat} {vv : Value}, wr.cell? ⟨bb, oo, none⟩ = some vv → W.cell? ⟨bb, oo, none⟩ = some vv := fun {bb oo vv} h => (hB.cell (p := ⟨bb, oo, none⟩) (dCell_lt h)).trans h
    exact ⟨⟨cb c0, cb c1⟩, cb e0, cb e1⟩
   have hbr : Below wr.heap.size wr wr.drew := (Below.refl _ _).drew
   go_wp2_with fail
   go_region_held3 (fun W => (W.cell? ⟨b, off + k * 2, none⟩ = some (.int .i64 n0) ∧ W.cell? ⟨b, off + k * 2 + 1, none⟩ = some (.slice xa n1 xcap)) ∧ W.cell? ⟨b', off' + k * 2, none⟩ = some (.int .i64 n2) ∧ W.cell? ⟨b', off' + k * 2 + 1, none⟩ = some (.slice za n3 zcap)) (first | exact dU KB _ hb5 | go_keep)
    (first
     | (go_at_call 87; refine (dU CE _ hbr).mono ?_; rintro r w5 ⟨rfl, b5⟩; have hb5 := bT hbr b5))
   all_goals
    go_wp2
    go_roundw
    case rel => exact ⟨k + 1, by go_num, by omega, bT hb hb5⟩
    case measure => simp [intOf]; omega
  ·clear HU HV HN HP em
   go_wp2
   go_ret
   exact ⟨rfl, hb⟩
theorem makeWriterS (n : Nat) (h : n ≤ 1073741824) (w : World) : (Instr.makeSlice 43 (.int .i64 (n : Int)) (.int .i64 (n : Int))).run Tryz.prog w = .ok (.slice (some ⟨w.heap.size, 0, none⟩) n n) (w.alloc (.cells (madeCells (Value.agg #[.int .i64 0, .slice none 0 0]).cells (n * 2)) 130)) := by
 obtain ⟨i0, hi, hz0, hz1, hz2⟩ := info_parts (show (Tryz.prog.info? 130).map (fun i => (i.zero, i.size, i.bytes)) = some (some (.agg #[.int .i64 0, .slice none 0 0]), 2, 32) from by kernel_rfl)
 have := run_make (P := Tryz.prog) w 43 130 i0 _ Tryz.underlying43 hi hz0 .i64 .i64 (n : Int) (n : Int) (by omega) (by omega) (by rw [hz2]; omega) (by omega)
 rw [hz1] at this
 simpa using this
def zeroWriterS : Pd 2 Wt := ⟨[.int .i64 0, .slice none 0 0], rfl, ⟨0, []⟩⟩
set_option maxHeartbeats 4000000 in
theorem toWriterS_ (v : Value) (ms : List Wt) (w : World) (hl : sizWriterS ms ≤ 1048576) (hv : RdWriterS v ms w) :
  Calls Tryz.prog 32 #[v] w fun e w' => ∃ u, e = .returned u ∧ Sits (OwWriterS w.heap.size w'.heap.size u ms) w.heap.size w'.heap.size w' ∧ Below w.heap.size w w' := by
 obtain ⟨rs, rfl, hr, hn⟩ := hv
 have hlen : rs.length ≤ 1048576 := by unfold sizWriterS sizD at hl; rw [List.length_map] at hl; omega
 have HS : Hid (∀ k (hk : k < rs.length), sizWriter rs[k].m ≤ 1048576) := fun k hk => by
  have h1 := sumPd_mem sizWriter (ms := rs.map Pd.m) (k := k) (by simpa using hk)
  rw [List.getElem_map] at h1
  unfold sizWriterS sizD at hl
  omega
 have HV := dH fun W (hb : Below w.heap.size w W) => hr.below hb
 have HN := dH fun W (hb : Below w.heap.size w W) k (hk : k < rs.length) => (hn _ (List.getElem_mem hk)).below hb
 obtain ⟨h0, a, cap, rfl, -, -⟩ := hr
 have hmk := makeWriterS rs.length (by omega)
 clear hn hl
 go_enter Tryz.func32, Tryz.ntmps32
 go_wp2
 go_loopw [4] (fun x wr => ∃ (k : Nat) (f : Nat → Pd 2 Wt) (s : Nat → Nat), x = .int .i64 (k : Int) ∧ k ≤ rs.length ∧ Hid (CopD OwWriter wr w.heap.size rs k f s) ∧ w.heap.size < wr.heap.size ∧ Below w.heap.size w wr) (fun x _ => rs.length - (intOf x).toNat)
 case atStart => exact ⟨0, fun _ => zeroWriterS, fun _ => w.heap.size + 1, rfl, Nat.zero_le _, CopD.start w _ rs 130 zeroWriterS rfl (by kernel_rfl), by simp, (Below.refl _ _).alloc (Nat.le_refl _) _⟩
 case round =>
  obtain ⟨k, f, s, rfl, hk, hz, hsz, hb⟩ := hrel
  by_cases hlt : (k : Int) < (rs.length : Int)
  ·have hkl : k < rs.length := by omega
   obtain ⟨b, off, rfl, hc⟩ := (dU HV wr hb).pd hkl
   have CE := dH fun W (hB : Below wr.heap.size wr W) => toWriter_ rs[k].val rs[k].m W (dU HS k hkl) (dU HN W (bT hb hB) k hkl)
   have hin : Hid (∀ (w2 : World) (e : Pd 2 Wt), Below wr.heap.size wr w2 → e.m = rs[k].m → OwWriter wr.heap.size w2.heap.size e.val e.m w2 → CopD OwWriter (setAll w.heap.size (0 + k * 2) 0 e.c w2) w.heap.size rs (k + 1) (putG f k e) (fun i => if i ≤ k then s i else w2.heap.size)) := fun w2 e hB he ho => CopD.step (Ow := OwWriter) sitsOfWriter (fun h h1 => OwWriter.wideD h h1) (dU hz) hkl hB hsz e he ho
   have hrow : Hid (∀ W, Below wr.heap.size wr W → RowG 2 Pd.c W w.heap.size 0 rs.length f) := fun W hB => (dU hz).1.below hB
   have hfk := (f k).l
   have hF := formWriter (dU HN wr hb k hkl)
   have hck := hc k hkl
   generalize rs[k] = y at *
   obtain ⟨yc, yl, m⟩ := y
   obtain ⟨xa, xcap, hF, -⟩ := hF
   have hF := Pd.eq hF
   simp only at hF
   subst hF
   unfold Pd.val at CE
   simp only at *
   have c0 := hck 0 _ rfl
   have c1 := hck 1 _ rfl
   simp only [Nat.add_zero] at c0 c1
   clear hc hz hck
   go_wp2_with fail
   refine (dU CE _ (Below.refl _ _)).mono ?_
   rintro r w2 ⟨u, rfl, so, b2⟩
   have ho := so.now
   obtain ⟨qa, qcap, rfl, -⟩ := formWriter ho.rd
   have Z2 := dU hrow w2 b2 k hkl
   obtain ⟨z0, f0⟩ := Z2 0 _ (List.getElem?_eq_getElem (by rw [hfk]; decide))
   obtain ⟨z1, f1⟩ := Z2 1 _ (List.getElem?_eq_getElem (by rw [hfk]; decide))
   simp only [Nat.zero_add, Nat.add_zero] at z0 f0 z1 f1
   have Z3 := dU hin w2 ⟨[.int .i64 m.epoch, .slice qa m.words.length qcap], rfl, m⟩ b2 rfl ho
   simp only [setAll, Nat.zero_add, Nat.add_zero, Nat.reduceAdd] at Z3
   have Z4 := dH Z3
   have hb2 := bT hb b2
   have hb3 := dH ((hb2.setCell (p := ⟨w.heap.size, k * 2, none⟩) (Nat.le_refl _) (.int .i64 m.epoch)).setCell (p := ⟨w.heap.size, k * 2 + 1, none⟩) (Nat.le_refl _) (.slice qa m.words.length qcap))
   have hs2 : w.heap.size < ((w2.setCell ⟨w.heap.size, k * 2, none⟩ (.int .i64 m.epoch)).setCell ⟨w.heap.size, k * 2 + 1, none⟩ (.slice qa m.words.length qcap)).heap.size := by simpa using Nat.lt_of_lt_of_le hsz b2.size
   generalize (f k).c[0] = o0 at *
   generalize (f k).c[1] = o1 at *
   clear CE b2 c0 c1 hb hrow Z2 hb2 hin ho so Z3 hfk
   go_wp2
   go_roundw
   case rel => exact ⟨k + 1, _, _, by go_num, by omega, dU Z4, hs2, dU hb3⟩
   case measure => simp [intOf]; omega
  ·have O : Hid (Sits (OwWriterS w.heap.size wr.heap.size (.slice (some ⟨w.heap.size, 0, none⟩) rs.length rs.length) (rs.map Pd.m)) w.heap.size wr.heap.size wr) := by
    obtain rfl : k = rs.length := by omega
    exact CopD.done (Ow := OwWriter) sitsOfWriter (dU hz) h0
   clear hz HV HN HS
   go_wp2
   go_ret
   exact ⟨_, rfl, dU O, hb⟩
structure Wo where
 cfg : List Int × Int
 stores : List St
 lost : List Int
 reg : Rg
 writers : List Wt
 mends : List Mn
 readers : List Rr
 sent : List Se
 torn : Bool
def RdWorld (v : Value) (m : Wo) (W : World) : Prop := ∃ dv sv lv ev wv nv rv tv, v = .agg #[dv, .int .i64 m.cfg.2, sv, lv, ev, .int .i64 m.reg.trim, wv, nv, rv, tv, .bool m.torn] ∧ Ns W dv m.cfg.1 ∧ RdStoreS sv m.stores W ∧ Ns W lv m.lost ∧ RdEraS ev m.reg.eras W ∧ RdWriterS wv m.writers W ∧ RdMendS nv m.mends W ∧ RdReaderS rv m.readers W ∧ RdSentS tv m.sent W
def Spd (n : Nat) (l h : Nat → Nat) (lo hi : Nat) : Prop := (∀ i, i < n → lo ≤ l i ∧ h i ≤ hi) ∧ ∀ i j, i < n → j < n → i ≠ j → h i ≤ l j ∨ h j ≤ l i
theorem Spd.chain {n : Nat} {l h : Nat → Nat} {lo hi : Nat} (h0 : lo ≤ l 0) (h1 : ∀ i, i < n + 1 → l i ≤ h i) (h2 : ∀ i, i < n → h i ≤ l (i + 1)) (h3 : h n ≤ hi) : Spd (n + 1) l h lo hi := by
 have up : ∀ j i, i < j → j ≤ n → h i ≤ l j := by
  intro j
  induction j with
  | zero => intro i hi _; omega
  | succ k ih =>
   intro i hi hj
   have a := h2 k (by omega)
   rcases Nat.lt_or_ge i k with e | e
   ·have := ih i e (by omega)
    have := h1 k (by omega)
    omega
   ·obtain rfl : i = k := by omega
    exact a
 have lo' : ∀ i, i ≤ n → lo ≤ l i := fun i hi => by
  rcases Nat.eq_zero_or_pos i with rfl | e
  ·exact h0
  ·have := up i 0 e hi
   have := h1 0 (by omega)
   omega
 have hi' : ∀ i, i ≤ n → h i ≤ hi := fun i hi => by
  rcases Nat.lt_or_ge i n with e | e
  ·have := up n i e (Nat.le_refl _)
   have := h1 n (by omega)
   omega
  ·obtain rfl : i = n := by omega
   exact h3
 refine ⟨fun i hi => ⟨lo' i (by omega), hi' i (by omega)⟩, fun i j hi hj hn => ?_⟩
 rcases Nat.lt_or_gt_of_ne hn with e | e
 ·exact .inl (up j i e (by omega))
 ·exact .inr (up i j e (by omega))
def OwWorld (lo hi : Nat) (v : Value) (m : Wo) (W : World) : Prop := ∃ dv sv lv ev wv nv rv tv, ∃ l h : Nat → Nat, v = .agg #[dv, .int .i64 m.cfg.2, sv, lv, ev, .int .i64 m.reg.trim, wv, nv, rv, tv, .bool m.torn] ∧ Spd 8 l h lo hi ∧ OwN (l 0) (h 0) dv m.cfg.1 W ∧ OwStoreS (l 1) (h 1) sv m.stores W ∧ OwN (l 2) (h 2) lv m.lost W ∧ OwEraS (l 3) (h 3) ev m.reg.eras W ∧ OwWriterS (l 4) (h 4) wv m.writers W ∧ OwMendS (l 5) (h 5) nv m.mends W ∧ OwReaderS (l 6) (h 6) rv m.readers W ∧ OwSentS (l 7) (h 7) tv m.sent W
def sizWorld (m : Wo) : Nat := sizConfig m.cfg + (sizStoreS m.stores + (sizIntS m.lost + (sizRegister m.reg + (sizWriterS m.writers + (sizMendS m.mends + (sizReaderS m.readers + (sizSentS m.sent)))))))
def txtWo (m : Wo) : Prop := txtSS m.stores ∧ (∀ x ∈ m.writers, txtW x.words) ∧ (∀ x ∈ m.mends, txtE x.seen) ∧ (∀ x ∈ m.readers, txtEv x.out) ∧ txtSe m.sent
theorem OwWorld.rd {lo hi : Nat} {v : Value} {m : Wo} {W : World} (h : OwWorld lo hi v m W) : RdWorld v m W := by
 obtain ⟨dv, sv, lv, ev, wv, nv, rv, tv, _, _, e, -, h0, h1, h2, h3, h4, h5, h6, h7⟩ := h
 exact ⟨dv, sv, lv, ev, wv, nv, rv, tv, e, h0.rd, h1.rd, h2.rd, OwK.rd h3, h4.rd, h5.rd, h6.rd, h7.rd⟩
theorem RdWorld.below {v : Value} {m : Wo} {W W' : World} (h : RdWorld v m W) (b : Below W.heap.size W W') : RdWorld v m W' := by
 obtain ⟨dv, sv, lv, ev, wv, nv, rv, tv, e, h0, h1, h2, h3, h4, h5, h6, h7⟩ := h
 exact ⟨dv, sv, lv, ev, wv, nv, rv, tv, e, h0.below b, h1.below b, h2.below b, RdK.below h3 b, h4.below b, h5.below b, h6.below b, h7.below b⟩
theorem formWorld {v : Value} {m : Wo} {W : World} (h : RdWorld v m W) : ∃ da dc sa sc la lc ea ec wa wc na nc ra rc ta tc, v = .agg #[.slice da m.cfg.1.length dc, .int .i64 m.cfg.2, .slice sa m.stores.length sc, .slice la m.lost.length lc, .slice ea m.reg.eras.length ec, .int .i64 m.reg.trim, .slice wa m.writers.length wc, .slice na m.mends.length nc, .slice ra m.readers.length rc, .slice ta m.sent.length tc, .bool m.torn] ∧ m.cfg.1.length ≤ 9223372036854775807 ∧ m.stores.length ≤ 9223372036854775807 ∧ m.lost.length ≤ 9223372036854775807 ∧ m.reg.eras.length ≤ 9223372036854775807 ∧ m.writers.length ≤ 9223372036854775807 ∧ m.mends.length ≤ 9223372036854775807 ∧ m.readers.length ≤ 9223372036854775807 ∧ m.sent.length ≤ 9223372036854775807 := by
 obtain ⟨dv, sv, lv, ev, wv, nv, rv, tv, rfl, h0, h1, h2, h3, h4, h5, h6, h7⟩ := h
 obtain ⟨zd, da, dc, rfl, -, -⟩ := h0
 obtain ⟨sa, sc, rfl, zs⟩ := formStoreS h1
 obtain ⟨zl, la, lc, rfl, -, -⟩ := h2
 obtain ⟨ea, ec, rfl, ze⟩ := formK h3
 obtain ⟨wa, wc, rfl, zw⟩ := formD h4
 obtain ⟨na, nc, rfl, zn⟩ := formD h5
 obtain ⟨ra, rc, rfl, zr⟩ := formD h6
 obtain ⟨ta, tc, rfl, zt⟩ := formSentS h7
 exact ⟨da, dc, sa, sc, la, lc, ea, ec, wa, wc, na, nc, ra, rc, ta, tc, rfl, zd, zs, zl, ze, zw, zn, zr, zt⟩
theorem partsWorld {v : Value} {m : Wo} {W : World} (h : RdWorld v m W) : ∃ da dc sa sc la lc ea ec wa wc na nc ra rc ta tc, v = .agg #[.slice da m.cfg.1.length dc, .int .i64 m.cfg.2, .slice sa m.stores.length sc, .slice la m.lost.length lc, .slice ea m.reg.eras.length ec, .int .i64 m.reg.trim, .slice wa m.writers.length wc, .slice na m.mends.length nc, .slice ra m.readers.length rc, .slice ta m.sent.length tc, .bool m.torn] ∧ Ns W (.slice da m.cfg.1.length dc) m.cfg.1 ∧ RdStoreS (.slice sa m.stores.length sc) m.stores W ∧ Ns W (.slice la m.lost.length lc) m.lost ∧ RdEraS (.slice ea m.reg.eras.length ec) m.reg.eras W ∧ RdWriterS (.slice wa m.writers.length wc) m.writers W ∧ RdMendS (.slice na m.mends.length nc) m.mends W ∧ RdReaderS (.slice ra m.readers.length rc) m.readers W ∧ RdSentS (.slice ta m.sent.length tc) m.sent W := by
 obtain ⟨dv, sv, lv, ev, wv, nv, rv, tv, rfl, h0, h1, h2, h3, h4, h5, h6, h7⟩ := h
 have g0 := h0
 obtain ⟨zd, da, dc, rfl, -, -⟩ := g0
 have g1 := h1
 obtain ⟨sa, sc, rfl, zs⟩ := formStoreS g1
 have g2 := h2
 obtain ⟨zl, la, lc, rfl, -, -⟩ := g2
 have g3 := h3
 obtain ⟨ea, ec, rfl, ze⟩ := formK g3
 have g4 := h4
 obtain ⟨wa, wc, rfl, zw⟩ := formD g4
 have g5 := h5
 obtain ⟨na, nc, rfl, zn⟩ := formD g5
 have g6 := h6
 obtain ⟨ra, rc, rfl, zr⟩ := formD g6
 have g7 := h7
 obtain ⟨ta, tc, rfl, zt⟩ := formSentS g7
 exact ⟨da, dc, sa, sc, la, lc, ea, ec, wa, wc, na, nc, ra, rc, ta, tc, rfl, h0, h1, h2, h3, h4, h5, h6, h7⟩
theorem OwWorld.sits {lo hi : Nat} {w : World} {v : Value} {m : Wo} (h : OwWorld lo hi v m w) (hf : hi ≤ w.heap.size) : Sits (OwWorld lo hi v m) lo hi w := by
 obtain ⟨dv, sv, lv, ev, wv, nv, rv, tv, l, r, e, sp, h0, h1, h2, h3, h4, h5, h6, h7⟩ := h
 have hi' : ∀ i, i < 8 → r i ≤ w.heap.size := fun i h => Nat.le_trans (sp.1 i h).2 hf
 have t0 := h0.sits (hi' 0 (by omega))
 have t1 := h1.sits (hi' 1 (by omega))
 have t2 := h2.sits (hi' 2 (by omega))
 have t3 := OwK.sits h3 (hi' 3 (by omega))
 have t4 := OwD.sits (Ow := OwWriter) sitsOfWriter h4 (hi' 4 (by omega))
 have t5 := OwD.sits (Ow := OwMend) sitsOfMend h5 (hi' 5 (by omega))
 have t6 := OwD.sits (Ow := OwReader) sitsOfReader h6 (hi' 6 (by omega))
 have t7 := OwG.sits h7 (hi' 7 (by omega))
 exact ⟨hf, fun W hW => ⟨dv, sv, lv, ev, wv, nv, rv, tv, l, r, e, sp, t0.all W fun k k1 k2 => hW k (Nat.le_trans (sp.1 0 (by omega)).1 k1) (Nat.lt_of_lt_of_le k2 (sp.1 0 (by omega)).2), t1.all W fun k k1 k2 => hW k (Nat.le_trans (sp.1 1 (by omega)).1 k1) (Nat.lt_of_lt_of_le k2 (sp.1 1 (by omega)).2), t2.all W fun k k1 k2 => hW k (Nat.le_trans (sp.1 2 (by omega)).1 k1) (Nat.lt_of_lt_of_le k2 (sp.1 2 (by omega)).2), t3.all W fun k k1 k2 => hW k (Nat.le_trans (sp.1 3 (by omega)).1 k1) (Nat.lt_of_lt_of_le k2 (sp.1 3 (by omega)).2), t4.all W fun k k1 k2 => hW k (Nat.le_trans (sp.1 4 (by omega)).1 k1) (Nat.lt_of_lt_of_le k2 (sp.1 4 (by omega)).2), t5.all W fun k k1 k2 => hW k (Nat.le_trans (sp.1 5 (by omega)).1 k1) (Nat.lt_of_lt_of_le k2 (sp.1 5 (by omega)).2), t6.all W fun k k1 k2 => hW k (Nat.le_trans (sp.1 6 (by omega)).1 k1) (Nat.lt_of_lt_of_le k2 (sp.1 6 (by omega)).2), t7.all W fun k k1 k2 => hW k (Nat.le_trans (sp.1 7 (by omega)).1 k1) (Nat.lt_of_lt_of_le k2 (sp.1 7 (by omega)).2)⟩⟩
theorem Sits.put {P : World → Prop} {lo hi b o : Nat} {w : World} (h : Sits P lo hi w) (hb : b < lo ∨ hi ≤ b) (u : Value) : Sits P lo hi (w.setCell ⟨b, o, none⟩ u) :=
 ⟨by simpa using h.fit, fun W hW => h.all W fun k h1 h2 => (hW k h1 h2).trans (Below.heap_setCell _ _ _ k (by simp only; omega))⟩
theorem Sits.snoc {P Q : World → Prop} {lo mid mid' hi : Nat} {w : World} (h : Sits P lo mid w) (k : Sits Q mid' hi w) (h1 : lo ≤ mid') (h2 : mid ≤ hi) : Sits (fun W => P W ∧ Q W) lo hi w :=
 ⟨k.fit, fun W hW => ⟨h.all W fun j j1 j2 => hW j j1 (by omega), k.all W fun j j1 j2 => hW j (by omega) j2⟩⟩
theorem szIntS_w (v : Value) (m : List Int) (left : Int) (l0 : 0 ≤ left) (l1 : left ≤ 1048576) (w : World) (h : Ns w v m) :
  Calls Tryz.prog 21 #[v, .int .i64 left] w fun e w' => e = .returned (.int .i64 (lft left (sizIntS m))) ∧ Below w.heap.size w w' := szIntS_b v m left l0 l1 w h
set_option maxHeartbeats 8000000 in
theorem eqWorld_ (u v : Value) (m : Wo) (w : World) (hu : RdWorld u m w) (hv : RdWorld v m w) :
  Calls Tryz.prog 11 #[u, v] w fun e w' => e = .returned (.bool true) ∧ Below w.heap.size w w' := by
 have hb0 : ∀ o o', Below w.heap.size w ((w.alloc o).alloc o') := fun o o' => ((Below.refl _ _).alloc (Nat.le_refl _) o).alloc (by simp) o'
 obtain ⟨dv, sv, lv, ev, wv, nv, rv, tv, rfl, g0, g1, g2, g3, g4, g5, g6, g7⟩ := hu
 obtain ⟨xdv, xsv, xlv, xev, xwv, xnv, xrv, xtv, rfl, h0, h1, h2, h3, h4, h5, h6, h7⟩ := hv
 have C0 := dH fun W (hb : Below w.heap.size w W) => eqConfig_ (.agg #[dv, .int .i64 m.cfg.2]) (.agg #[xdv, .int .i64 m.cfg.2]) m.cfg W ⟨_, rfl, g0.below hb⟩ ⟨_, rfl, h0.below hb⟩
 have C1 := dH fun W (hb : Below w.heap.size w W) => eqStoreS_ (sv) (xsv) m.stores W (g1.below hb) (h1.below hb)
 have C2 := dH fun W (hb : Below w.heap.size w W) => eqIntS_ (lv) (xlv) m.lost W (g2.below hb) (h2.below hb)
 have C3 := dH fun W (hb : Below w.heap.size w W) => eqRegister_ (.agg #[ev, .int .i64 m.reg.trim]) (.agg #[xev, .int .i64 m.reg.trim]) m.reg W ⟨_, rfl, RdK.below g3 hb⟩ ⟨_, rfl, RdK.below h3 hb⟩
 have C4 := dH fun W (hb : Below w.heap.size w W) => eqWriterS_ (wv) (xwv) m.writers W (g4.below hb) (h4.below hb)
 have C5 := dH fun W (hb : Below w.heap.size w W) => eqMendS_ (nv) (xnv) m.mends W (g5.below hb) (h5.below hb)
 have C6 := dH fun W (hb : Below w.heap.size w W) => eqReaderS_ (rv) (xrv) m.readers W (g6.below hb) (h6.below hb)
 have C7 := dH fun W (hb : Below w.heap.size w W) => eqSentS_ (tv) (xtv) m.sent W (g7.below hb) (h7.below hb)
 obtain ⟨zd, da, dc, rfl, -, -⟩ := g0
 obtain ⟨zxd, xda, xdc, rfl, -, -⟩ := h0
 obtain ⟨sa, sc, rfl, zs⟩ := formStoreS g1
 obtain ⟨xsa, xsc, rfl, zxs⟩ := formStoreS h1
 obtain ⟨zl, la, lc, rfl, -, -⟩ := g2
 obtain ⟨zxl, xla, xlc, rfl, -, -⟩ := h2
 obtain ⟨ea, ec, rfl, ze⟩ := formK g3
 obtain ⟨xea, xec, rfl, zxe⟩ := formK h3
 obtain ⟨wa, wc, rfl, zw⟩ := formD g4
 obtain ⟨xwa, xwc, rfl, zxw⟩ := formD h4
 obtain ⟨na, nc, rfl, zn⟩ := formD g5
 obtain ⟨xna, xnc, rfl, zxn⟩ := formD h5
 obtain ⟨ra, rc, rfl, zr⟩ := formD g6
 obtain ⟨xra, xrc, rfl, zxr⟩ := formD h6
 obtain ⟨ta, tc, rfl, zt⟩ := formSentS g7
 obtain ⟨xta, xtc, rfl, zxt⟩ := formSentS h7
 clear g1 g3 g4 g5 g6 g7 h1 h3 h4 h5 h6 h7
 generalize m.cfg.1.length = gd at *
 generalize m.stores.length = gs at *
 generalize m.lost.length = gl at *
 generalize m.reg.eras.length = ge at *
 generalize m.writers.length = gw at *
 generalize m.mends.length = gn at *
 generalize m.readers.length = gr at *
 generalize m.sent.length = gt at *
 generalize m.cfg.2 = f1 at *
 generalize m.reg.trim = f5 at *
 generalize m.torn = f10 at *
 have X0 := (Bx.new w [.slice da gd dc, .int .i64 f1, .slice sa gs sc, .slice la gl lc, .slice ea ge ec, .int .i64 f5, .slice wa gw wc, .slice na gn nc, .slice ra gr rc, .slice ta gt tc, .bool f10] 47).below ((Below.refl _ _).alloc (Nat.le_refl _) (.cells #[.slice xda gd xdc, .int .i64 f1, .slice xsa gs xsc, .slice xla gl xlc, .slice xea ge xec, .int .i64 f5, .slice xwa gw xwc, .slice xna gn xnc, .slice xra gr xrc, .slice xta gt xtc, .bool f10] 47))
 have Y0 := Bx.new (w.alloc (.cells #[.slice da gd dc, .int .i64 f1, .slice sa gs sc, .slice la gl lc, .slice ea ge ec, .int .i64 f5, .slice wa gw wc, .slice na gn nc, .slice ra gr rc, .slice ta gt tc, .bool f10] 47)) [.slice xda gd xdc, .int .i64 f1, .slice xsa gs xsc, .slice xla gl xlc, .slice xea ge xec, .int .i64 f5, .slice xwa gw xwc, .slice xna gn xnc, .slice xra gr xrc, .slice xta gt xtc, .bool f10] 47
 have e1 : (w.alloc (.cells #[.slice da gd dc, .int .i64 f1, .slice sa gs sc, .slice la gl lc, .slice ea ge ec, .int .i64 f5, .slice wa gw wc, .slice na gn nc, .slice ra gr rc, .slice ta gt tc, .bool f10] 47)).heap.size = w.heap.size + 1 := by simp
 rw [e1] at Y0
 have B0 := hb0 (.cells #[.slice da gd dc, .int .i64 f1, .slice sa gs sc, .slice la gl lc, .slice ea ge ec, .int .i64 f5, .slice wa gw wc, .slice na gn nc, .slice ra gr rc, .slice ta gt tc, .bool f10] 47) (.cells #[.slice xda gd xdc, .int .i64 f1, .slice xsa gs xsc, .slice xla gl xlc, .slice xea ge xec, .int .i64 f5, .slice xwa gw xwc, .slice xna gn xnc, .slice xra gr xrc, .slice xta gt xtc, .bool f10] 47)
 clear e1
 go_enter Tryz.func11, Tryz.ntmps11
 go_wp2_with fail
 generalize (w.alloc (.cells #[.slice da gd dc, .int .i64 f1, .slice sa gs sc, .slice la gl lc, .slice ea ge ec, .int .i64 f5, .slice wa gw wc, .slice na gn nc, .slice ra gr rc, .slice ta gt tc, .bool f10] 47)).alloc (.cells #[.slice xda gd xdc, .int .i64 f1, .slice xsa gs xsc, .slice xla gl xlc, .slice xea ge xec, .int .i64 f5, .slice xwa gw xwc, .slice xna gn xnc, .slice xra gr xrc, .slice xta gt xtc, .bool f10] 47) = w0 at *
 refine (dU C0 _ B0).mono ?_
 rintro e w1 ⟨rfl, b1⟩
 have B1 := bT B0 b1
 have X1 := X0.below b1
 have Y1 := Y0.below b1
 clear b1 C0 B0 X0 Y0
 have k2 := X1 2 _ rfl
 have j2 := Y1 2 _ rfl
 go_wp2_with fail
 refine (dU C1 _ B1).mono ?_
 rintro e w2 ⟨rfl, b2⟩
 have B2 := bT B1 b2
 have X2 := X1.below b2
 have Y2 := Y1.below b2
 clear b2 C1 B1 X1 Y1 k2 j2
 have k3 := X2 3 _ rfl
 have j3 := Y2 3 _ rfl
 go_wp2_with fail
 refine (dU C2 _ B2).mono ?_
 rintro e w3 ⟨rfl, b3⟩
 have B3 := bT B2 b3
 have X3 := X2.below b3
 have Y3 := Y2.below b3
 clear b3 C2 B2 X2 Y2 k3 j3
 have k4 := X3 4 _ rfl
 have j4 := Y3 4 _ rfl
 have k5 := X3 5 _ rfl
 have j5 := Y3 5 _ rfl
 go_wp2_with fail
 refine (dU C3 _ B3).mono ?_
 rintro e w4 ⟨rfl, b4⟩
 have B4 := bT B3 b4
 have X4 := X3.below b4
 have Y4 := Y3.below b4
 clear b4 C3 B3 X3 Y3 k4 j4 k5 j5
 have k6 := X4 6 _ rfl
 have j6 := Y4 6 _ rfl
 go_wp2_with fail
 refine (dU C4 _ B4).mono ?_
 rintro e w5 ⟨rfl, b5⟩
 have B5 := bT B4 b5
 have X5 := X4.below b5
 have Y5 := Y4.below b5
 clear b5 C4 B4 X4 Y4 k6 j6
 have k7 := X5 7 _ rfl
 have j7 := Y5 7 _ rfl
 go_wp2_with fail
 refine (dU C5 _ B5).mono ?_
 rintro e w6 ⟨rfl, b6⟩
 have B6 := bT B5 b6
 have X6 := X5.below b6
 have Y6 := Y5.below b6
 clear b6 C5 B5 X5 Y5 k7 j7
 have k8 := X6 8 _ rfl
 have j8 := Y6 8 _ rfl
 go_wp2_with fail
 refine (dU C6 _ B6).mono ?_
 rintro e w7 ⟨rfl, b7⟩
 have B7 := bT B6 b7
 have X7 := X6.below b7
 have Y7 := Y6.below b7
 clear b7 C6 B6 X6 Y6 k8 j8
 have k9 := X7 9 _ rfl
 have j9 := Y7 9 _ rfl
 go_wp2_with fail
 refine (dU C7 _ B7).mono ?_
 rintro e w8 ⟨rfl, b8⟩
 have B8 := bT B7 b8
 have X8 := X7.below b8
 have Y8 := Y7.below b8
 clear b8 C7 B7 X7 Y7 k9 j9
 have k10 := X8 10 _ rfl
 have j10 := Y8 10 _ rfl
 clear X8 Y8
 go_wp2
 go_ret
 exact ⟨rfl, B8⟩
end Go.Proofs.YtkiclbbialadlaaGreat
