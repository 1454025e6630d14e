/- Rows of readers, as the exact laws handle them (printed by tools/mkrow.py). -/
import Derived.Test.YtaamipmlalplbaaRdS
import Derived.Test.YtaamipmlalplbaaDpP
import Derived.Deep.RegionHeld3
import Derived.Deep.DeepCutAuto
import Derived.Laws.MakeOwn
namespace Go.Proofs.Ytaamipmlalplbaa
open Go.ChangeShapes Go.WideShapes Go.ChangeAt Go.RowKit
set_option linter.unusedVariables false
set_option linter.unusedSimpArgs false
set_option maxRecDepth 100000

def RdReaderS (v : Value) (ms : List Rr) (W : World) : Prop := RdD 3 RdReader v ms W
def OwReaderS (lo hi : Nat) (v : Value) (ms : List Rr) (W : World) : Prop := OwD 3 OwReader lo hi v ms W
def sizReaderS (ms : List Rr) : Nat := sizD sizReader ms
theorem RdReaderS.below {v : Value} {ms : List Rr} {W W' : World} (h : RdReaderS v ms W) (b : Below W.heap.size W W') : RdReaderS v ms W' := RdD.below (Rd := RdReader) (fun h b => RdReader.below h b) h b
theorem OwReaderS.rd {lo hi : Nat} {v : Value} {ms : List Rr} {W : World} (h : OwReaderS lo hi v ms W) : RdReaderS v ms W := OwD.rd (Rd := RdReader) (Ow := OwReader) (fun h => OwReader.rd h) h
theorem sitsOfReader : SitsOf OwReader := fun h hf => OwReader.sits h hf
theorem OwReader.wideD {lo hi lo' : Nat} {v : Value} {m : Rr} {w : World} (h : OwReader lo hi v m w) (h1 : lo' ≤ lo) : OwReader lo' hi v m w := by
  obtain ⟨sv, e, h⟩ := h
  exact ⟨sv, e, OwG.wide h h1 (Nat.le_refl _)⟩
set_option maxHeartbeats 4000000 in
theorem eqReaderS_ (u v : Value) (ms : List Rr) (w : World) (hu : RdReaderS u ms w) (hv : RdReaderS v ms w) :
    Calls Try.prog 25 #[u, v] w fun e w' => e = .returned (.bool true) ∧ Below w.heap.size w w' := by
  obtain ⟨rs, e1, hr, hn⟩ := hu
  obtain ⟨ss, e2, hs, hp⟩ := hv
  have el : rs.length = ss.length := by rw [← List.length_map (f := Pd.m), e1, ← e2, List.length_map]
  have em : Hid (∀ k (h : k < rs.length) (h' : k < ss.length), rs[k].m = ss[k].m) := fun k h h' => by
    have q1 : (rs.map Pd.m)[k]? = (ss.map Pd.m)[k]? := by rw [e1, e2]
    rw [List.getElem?_map, List.getElem?_map, List.getElem?_eq_getElem h, List.getElem?_eq_getElem h'] at q1
    simpa using q1
  have HU := dHide fun W (hb : Below w.heap.size w W) => hr.below hb
  have HV := dHide fun W (hb : Below w.heap.size w W) => hs.below hb
  have HN := dHide fun W (hb : Below w.heap.size w W) k (hk : k < rs.length) => (hn _ (List.getElem_mem hk)).below hb
  have HP := dHide fun W (hb : Below w.heap.size w W) k (hk : k < ss.length) => (hp _ (List.getElem_mem hk)).below hb
  obtain ⟨h0, a, cap, rfl, -, -⟩ := hr
  obtain ⟨h0', a', cap', rfl, -, -⟩ := hs
  rw [← el]
  have EL := dHide el
  clear hn hp e1 e2 el h0'
  go_enter Try.func25, Try.ntmps25
  go_wp2
  go_loopw [5] (fun i wr => ∃ k : Nat, i = .int .i64 (k : Int) ∧ k ≤ rs.length ∧ Below w.heap.size w wr) (fun i _ => rs.length - (intOf i).toNat)
  case atStart => exact ⟨0, rfl, Nat.zero_le _, Below.refl _ _⟩
  case round =>
    obtain ⟨k, rfl, hk, hb⟩ := hrel
    by_cases hlt : (k : Int) < (rs.length : Int)
    · have hkl : k < rs.length := by omega
      have hkl' : k < ss.length := by rw [← dUnhide EL]; exact hkl
      obtain ⟨b, off, rfl, hc⟩ := (dUnhide HU wr hb).pd hkl
      obtain ⟨b', off', rfl, hc'⟩ := (dUnhide HV wr hb).pd hkl'
      have hck := hc k hkl
      have hdk := hc' k hkl'
      have hF := formReader (dUnhide HN wr hb k hkl)
      have hG := formReader (dUnhide HP wr hb k hkl')
      have CE := dHide fun W (hB : Below wr.heap.size wr W) => eqReader_ rs[k].val ss[k].val rs[k].m W (dUnhide HN W (belowThen hb hB) k hkl) (by rw [dUnhide em k hkl hkl']; exact dUnhide HP W (belowThen hb hB) k hkl')
      generalize rs[k] = y at *
      generalize ss[k] = y' at *
      obtain ⟨yc, yl, m⟩ := y
      obtain ⟨yc', yl', m'⟩ := y'
      obtain ⟨xa, xcap, hF, -⟩ := hF
      obtain ⟨za, zcap, hG, -⟩ := hG
      have hF := Pd.eq hF
      have hG := Pd.eq hG
      simp only at hF hG
      subst hF hG
      unfold Pd.val at CE
      simp only at *
      have c0 := hck 0 _ rfl
      have e0 := hdk 0 _ rfl
      have c1 := hck 1 _ rfl
      have e1 := hdk 1 _ rfl
      have c2 := hck 2 _ rfl
      have e2 := hdk 2 _ rfl
      simp only [Nat.add_zero] at c0 c1 c2 e0 e1 e2
      clear hck hdk hc hc' HU HV HN HP em
      generalize m.epoch = n0 at *
      generalize m.off = n1 at *
      generalize m.out.length = n2 at *
      generalize m'.epoch = n3 at *
      generalize m'.off = n4 at *
      generalize m'.out.length = n5 at *
      have KB : Hid (∀ W, Below wr.heap.size wr W → (W.cell? ⟨b, off + k * 3, none⟩ = some (.int .i64 n0) ∧ W.cell? ⟨b, off + k * 3 + 1, none⟩ = some (.int .i64 n1) ∧ W.cell? ⟨b, off + k * 3 + 2, none⟩ = some (.slice xa n2 xcap)) ∧ W.cell? ⟨b', off' + k * 3, none⟩ = some (.int .i64 n3) ∧ W.cell? ⟨b', off' + k * 3 + 1, none⟩ = some (.int .i64 n4) ∧ W.cell? ⟨b', off' + k * 3 + 2, none⟩ = some (.slice za n5 zcap)) := fun W hB => by
        have cb : ∀ {bb oo : Nat} {vv : Value}, wr.cell? ⟨bb, oo, none⟩ = some vv → W.cell? ⟨bb, oo, none⟩ = some vv := fun {bb oo vv} h => (hB.cell (p := ⟨bb, oo, none⟩) (dCell_lt h)).trans h
        exact ⟨⟨cb c0, cb c1, cb c2⟩, cb e0, cb e1, cb e2⟩
      have hbr : Below wr.heap.size wr wr.drew := (Below.refl _ _).drew
      go_wp2_with fail
      go_region_held3 (fun W => (W.cell? ⟨b, off + k * 3, none⟩ = some (.int .i64 n0) ∧ W.cell? ⟨b, off + k * 3 + 1, none⟩ = some (.int .i64 n1) ∧ W.cell? ⟨b, off + k * 3 + 2, none⟩ = some (.slice xa n2 xcap)) ∧ W.cell? ⟨b', off' + k * 3, none⟩ = some (.int .i64 n3) ∧ W.cell? ⟨b', off' + k * 3 + 1, none⟩ = some (.int .i64 n4) ∧ W.cell? ⟨b', off' + k * 3 + 2, none⟩ = some (.slice za n5 zcap)) (first | exact dUnhide KB _ hb5 | go_keep)
        (first
          | (go_at_call 47; refine (dUnhide CE _ hbr).mono ?_; rintro r w5 ⟨rfl, b5⟩; have hb5 := belowThen hbr b5))
      all_goals
        go_wp2
        go_roundw
        case rel => exact ⟨k + 1, by go_num, by omega, belowThen hb hb5⟩
        case measure => simp [intOf]; omega
    · clear HU HV HN HP em
      go_wp2
      go_ret
      exact ⟨rfl, hb⟩
theorem makeReaderS (n : Nat) (h : n ≤ 1073741824) (w : World) : (Instr.makeSlice 33 (.int .i64 (n : Int)) (.int .i64 (n : Int))).run Try.prog w = .ok (.slice (some ⟨w.heap.size, 0, none⟩) n n) (w.alloc (.cells (madeCells (Value.agg #[.int .i64 0, .int .i64 0, .slice none 0 0]).cells (n * 3)) 49)) := by
  obtain ⟨i0, hi, hz0, hz1, hz2⟩ := info_parts (show (Try.prog.info? 49).map (fun i => (i.zero, i.size, i.bytes)) = some (some (.agg #[.int .i64 0, .int .i64 0, .slice none 0 0]), 3, 40) from by kernel_rfl)
  have := run_make (P := Try.prog) w 33 49 i0 _ Try.underlying33 hi hz0 .i64 .i64 (n : Int) (n : Int) (by omega) (by omega) (by rw [hz2]; omega) (by omega)
  rw [hz1] at this
  simpa using this
/-- Zero. -/
def zeroReaderS : Pd 3 Rr := ⟨[.int .i64 0, .int .i64 0, .slice none 0 0], rfl, ⟨0, 0, []⟩⟩
end Go.Proofs.Ytaamipmlalplbaa
