/- Rows of writers, as the exact laws handle them (printed by tools/mkrow.py). -/
import Derived.Test.YtaamipmlalplbaaWrSb
import Derived.Test.YtaamipmlalplbaaDpP
import Derived.Deep.RegionHeld3
import Derived.Deep.DeepCutAuto
import Derived.Laws.MakeOwn
namespace Go.Proofs.Ytaamipmlalplbaa
open Go.ChangeShapes Go.WideShapes Go.ChangeAt Go.RowKit
set_option linter.unusedVariables false
set_option linter.unusedSimpArgs false
set_option maxRecDepth 100000

def RdWriterS (v : Value) (ms : List Wt) (W : World) : Prop := RdD 2 RdWriter v ms W
def OwWriterS (lo hi : Nat) (v : Value) (ms : List Wt) (W : World) : Prop := OwD 2 OwWriter lo hi v ms W
def sizWriterS (ms : List Wt) : Nat := sizD sizWriter ms
theorem RdWriterS.below {v : Value} {ms : List Wt} {W W' : World} (h : RdWriterS v ms W) (b : Below W.heap.size W W') : RdWriterS v ms W' := RdD.below (Rd := RdWriter) (fun h b => RdWriter.below h b) h b
theorem OwWriterS.rd {lo hi : Nat} {v : Value} {ms : List Wt} {W : World} (h : OwWriterS lo hi v ms W) : RdWriterS v ms W := OwD.rd (Rd := RdWriter) (Ow := OwWriter) (fun h => OwWriter.rd h) h
theorem sitsOfWriter : SitsOf OwWriter := fun h hf => OwWriter.sits h hf
theorem OwWriter.wideD {lo hi lo' : Nat} {v : Value} {m : Wt} {w : World} (h : OwWriter lo hi v m w) (h1 : lo' ≤ lo) : OwWriter lo' hi v m w := by
  obtain ⟨sv, e, h⟩ := h
  exact ⟨sv, e, OwK.wide h h1 (Nat.le_refl _)⟩
set_option maxHeartbeats 4000000 in
theorem eqWriterS_ (u v : Value) (ms : List Wt) (w : World) (hu : RdWriterS u ms w) (hv : RdWriterS v ms w) :
    Calls Try.prog 23 #[u, v] w fun e w' => e = .returned (.bool true) ∧ Below w.heap.size w w' := by
  obtain ⟨rs, e1, hr, hn⟩ := hu
  obtain ⟨ss, e2, hs, hp⟩ := hv
  have el : rs.length = ss.length := by rw [← List.length_map (f := Pd.m), e1, ← e2, List.length_map]
  have em : Hid (∀ k (h : k < rs.length) (h' : k < ss.length), rs[k].m = ss[k].m) := fun k h h' => by
    have q1 : (rs.map Pd.m)[k]? = (ss.map Pd.m)[k]? := by rw [e1, e2]
    rw [List.getElem?_map, List.getElem?_map, List.getElem?_eq_getElem h, List.getElem?_eq_getElem h'] at q1
    simpa using q1
  have HU := dHide fun W (hb : Below w.heap.size w W) => hr.below hb
  have HV := dHide fun W (hb : Below w.heap.size w W) => hs.below hb
  have HN := dHide fun W (hb : Below w.heap.size w W) k (hk : k < rs.length) => (hn _ (List.getElem_mem hk)).below hb
  have HP := dHide fun W (hb : Below w.heap.size w W) k (hk : k < ss.length) => (hp _ (List.getElem_mem hk)).below hb
  obtain ⟨h0, a, cap, rfl, -, -⟩ := hr
  obtain ⟨h0', a', cap', rfl, -, -⟩ := hs
  rw [← el]
  have EL := dHide el
  clear hn hp e1 e2 el h0'
  go_enter Try.func23, Try.ntmps23
  go_wp2
  go_loopw [5] (fun i wr => ∃ k : Nat, i = .int .i64 (k : Int) ∧ k ≤ rs.length ∧ Below w.heap.size w wr) (fun i _ => rs.length - (intOf i).toNat)
  case atStart => exact ⟨0, rfl, Nat.zero_le _, Below.refl _ _⟩
  case round =>
    obtain ⟨k, rfl, hk, hb⟩ := hrel
    by_cases hlt : (k : Int) < (rs.length : Int)
    · have hkl : k < rs.length := by omega
      have hkl' : k < ss.length := by rw [← dUnhide EL]; exact hkl
      obtain ⟨b, off, rfl, hc⟩ := (dUnhide HU wr hb).pd hkl
      obtain ⟨b', off', rfl, hc'⟩ := (dUnhide HV wr hb).pd hkl'
      have hck := hc k hkl
      have hdk := hc' k hkl'
      have hF := formWriter (dUnhide HN wr hb k hkl)
      have hG := formWriter (dUnhide HP wr hb k hkl')
      have CE := dHide fun W (hB : Below wr.heap.size wr W) => eqWriter_ rs[k].val ss[k].val rs[k].m W (dUnhide HN W (belowThen hb hB) k hkl) (by rw [dUnhide em k hkl hkl']; exact dUnhide HP W (belowThen hb hB) k hkl')
      generalize rs[k] = y at *
      generalize ss[k] = y' at *
      obtain ⟨yc, yl, m⟩ := y
      obtain ⟨yc', yl', m'⟩ := y'
      obtain ⟨xa, xcap, hF, -⟩ := hF
      obtain ⟨za, zcap, hG, -⟩ := hG
      have hF := Pd.eq hF
      have hG := Pd.eq hG
      simp only at hF hG
      subst hF hG
      unfold Pd.val at CE
      simp only at *
      have c0 := hck 0 _ rfl
      have e0 := hdk 0 _ rfl
      have c1 := hck 1 _ rfl
      have e1 := hdk 1 _ rfl
      simp only [Nat.add_zero] at c0 c1 e0 e1
      clear hck hdk hc hc' HU HV HN HP em
      generalize m.epoch = n0 at *
      generalize m.words.length = n1 at *
      generalize m'.epoch = n2 at *
      generalize m'.words.length = n3 at *
      have KB : Hid (∀ W, Below wr.heap.size wr W → (W.cell? ⟨b, off + k * 2, none⟩ = some (.int .i64 n0) ∧ W.cell? ⟨b, off + k * 2 + 1, none⟩ = some (.slice xa n1 xcap)) ∧ W.cell? ⟨b', off' + k * 2, none⟩ = some (.int .i64 n2) ∧ W.cell? ⟨b', off' + k * 2 + 1, none⟩ = some (.slice za n3 zcap)) := fun W hB => by
        have cb : ∀ {bb oo : Nat} {vv : Value}, wr.cell? ⟨bb, oo, none⟩ = some vv → W.cell? ⟨bb, oo, none⟩ = some vv := fun {bb oo vv} h => (hB.cell (p := ⟨bb, oo, none⟩) (dCell_lt h)).trans h
        exact ⟨⟨cb c0, cb c1⟩, cb e0, cb e1⟩
      have hbr : Below wr.heap.size wr wr.drew := (Below.refl _ _).drew
      go_wp2_with fail
      go_region_held3 (fun W => (W.cell? ⟨b, off + k * 2, none⟩ = some (.int .i64 n0) ∧ W.cell? ⟨b, off + k * 2 + 1, none⟩ = some (.slice xa n1 xcap)) ∧ W.cell? ⟨b', off' + k * 2, none⟩ = some (.int .i64 n2) ∧ W.cell? ⟨b', off' + k * 2 + 1, none⟩ = some (.slice za n3 zcap)) (first | exact dUnhide KB _ hb5 | go_keep)
        (first
          | (go_at_call 45; refine (dUnhide CE _ hbr).mono ?_; rintro r w5 ⟨rfl, b5⟩; have hb5 := belowThen hbr b5))
      all_goals
        go_wp2
        go_roundw
        case rel => exact ⟨k + 1, by go_num, by omega, belowThen hb hb5⟩
        case measure => simp [intOf]; omega
    · clear HU HV HN HP em
      go_wp2
      go_ret
      exact ⟨rfl, hb⟩
theorem makeWriterS (n : Nat) (h : n ≤ 1073741824) (w : World) : (Instr.makeSlice 31 (.int .i64 (n : Int)) (.int .i64 (n : Int))).run Try.prog w = .ok (.slice (some ⟨w.heap.size, 0, none⟩) n n) (w.alloc (.cells (madeCells (Value.agg #[.int .i64 0, .slice none 0 0]).cells (n * 2)) 74)) := by
  obtain ⟨i0, hi, hz0, hz1, hz2⟩ := info_parts (show (Try.prog.info? 74).map (fun i => (i.zero, i.size, i.bytes)) = some (some (.agg #[.int .i64 0, .slice none 0 0]), 2, 32) from by kernel_rfl)
  have := run_make (P := Try.prog) w 31 74 i0 _ Try.underlying31 hi hz0 .i64 .i64 (n : Int) (n : Int) (by omega) (by omega) (by rw [hz2]; omega) (by omega)
  rw [hz1] at this
  simpa using this
/-- Zero. -/
def zeroWriterS : Pd 2 Wt := ⟨[.int .i64 0, .slice none 0 0], rfl, ⟨0, []⟩⟩
end Go.Proofs.Ytaamipmlalplbaa
