/- Rows of mends, as the exact laws handle them (printed by tools/mkrow.py). -/
import Derived.Test.YtaamipmlalplbaaMnSb
import Derived.Test.YtaamipmlalplbaaDpP
import Derived.Deep.RegionHeld3
import Derived.Deep.DeepCutAuto
import Derived.Laws.MakeOwn
namespace Go.Proofs.Ytaamipmlalplbaa
open Go.ChangeShapes Go.WideShapes Go.ChangeAt Go.RowKit
set_option linter.unusedVariables false
set_option linter.unusedSimpArgs false
set_option maxRecDepth 100000

def RdMendS (v : Value) (ms : List Mn) (W : World) : Prop := RdD 6 RdMend v ms W
def OwMendS (lo hi : Nat) (v : Value) (ms : List Mn) (W : World) : Prop := OwD 6 OwMend lo hi v ms W
def sizMendS (ms : List Mn) : Nat := sizD sizMend ms
theorem RdMendS.below {v : Value} {ms : List Mn} {W W' : World} (h : RdMendS v ms W) (b : Below W.heap.size W W') : RdMendS v ms W' := RdD.below (Rd := RdMend) (fun h b => RdMend.below h b) h b
theorem OwMendS.rd {lo hi : Nat} {v : Value} {ms : List Mn} {W : World} (h : OwMendS lo hi v ms W) : RdMendS v ms W := OwD.rd (Rd := RdMend) (Ow := OwMend) (fun h => OwMend.rd h) h
theorem sitsOfMend : SitsOf OwMend := fun h hf => OwMend.sits h hf
theorem OwMend.wideD {lo hi lo' : Nat} {v : Value} {m : Mn} {w : World} (h : OwMend lo hi v m w) (h1 : lo' ≤ lo) : OwMend lo' hi v m w := by
  obtain ⟨sv, ev, wv, rs, e, e2, a, b, c, d⟩ := h
  exact ⟨sv, ev, wv, rs, e, e2, a.wide h1 (Nat.le_refl _), b.wide h1 (Nat.le_refl _), c.wide h1 (Nat.le_refl _), d⟩
set_option maxHeartbeats 4000000 in
theorem eqMendS_ (u v : Value) (ms : List Mn) (w : World) (hu : RdMendS u ms w) (hv : RdMendS v ms w) :
    Calls Try.prog 24 #[u, v] w fun e w' => e = .returned (.bool true) ∧ Below w.heap.size w w' := by
  obtain ⟨rs, e1, hr, hn⟩ := hu
  obtain ⟨ss, e2, hs, hp⟩ := hv
  have el : rs.length = ss.length := by rw [← List.length_map (f := Pd.m), e1, ← e2, List.length_map]
  have em : Hid (∀ k (h : k < rs.length) (h' : k < ss.length), rs[k].m = ss[k].m) := fun k h h' => by
    have q1 : (rs.map Pd.m)[k]? = (ss.map Pd.m)[k]? := by rw [e1, e2]
    rw [List.getElem?_map, List.getElem?_map, List.getElem?_eq_getElem h, List.getElem?_eq_getElem h'] at q1
    simpa using q1
  have HU := dHide fun W (hb : Below w.heap.size w W) => hr.below hb
  have HV := dHide fun W (hb : Below w.heap.size w W) => hs.below hb
  have HN := dHide fun W (hb : Below w.heap.size w W) k (hk : k < rs.length) => (hn _ (List.getElem_mem hk)).below hb
  have HP := dHide fun W (hb : Below w.heap.size w W) k (hk : k < ss.length) => (hp _ (List.getElem_mem hk)).below hb
  obtain ⟨h0, a, cap, rfl, -, -⟩ := hr
  obtain ⟨h0', a', cap', rfl, -, -⟩ := hs
  rw [← el]
  have EL := dHide el
  clear hn hp e1 e2 el h0'
  go_enter Try.func24, Try.ntmps24
  go_wp2
  go_loopw [5] (fun i wr => ∃ k : Nat, i = .int .i64 (k : Int) ∧ k ≤ rs.length ∧ Below w.heap.size w wr) (fun i _ => rs.length - (intOf i).toNat)
  case atStart => exact ⟨0, rfl, Nat.zero_le _, Below.refl _ _⟩
  case round =>
    obtain ⟨k, rfl, hk, hb⟩ := hrel
    by_cases hlt : (k : Int) < (rs.length : Int)
    · have hkl : k < rs.length := by omega
      have hkl' : k < ss.length := by rw [← dUnhide EL]; exact hkl
      obtain ⟨b, off, rfl, hc⟩ := (dUnhide HU wr hb).pd hkl
      obtain ⟨b', off', rfl, hc'⟩ := (dUnhide HV wr hb).pd hkl'
      have hck := hc k hkl
      have hdk := hc' k hkl'
      have hF := formMend (dUnhide HN wr hb k hkl)
      have hG := formMend (dUnhide HP wr hb k hkl')
      have CE := dHide fun W (hB : Below wr.heap.size wr W) => eqMend_ rs[k].val ss[k].val rs[k].m W (dUnhide HN W (belowThen hb hB) k hkl) (by rw [dUnhide em k hkl hkl']; exact dUnhide HP W (belowThen hb hB) k hkl')
      generalize rs[k] = y at *
      generalize ss[k] = y' at *
      obtain ⟨yc, yl, m⟩ := y
      obtain ⟨yc', yl', m'⟩ := y'
      obtain ⟨xsa, xsc, xea, xec, xwa, xwc, hF, -, -, -⟩ := hF
      obtain ⟨zsa, zsc, zea, zec, zwa, zwc, hG, -, -, -⟩ := hG
      have hF := Pd.eq hF
      have hG := Pd.eq hG
      simp only at hF hG
      subst hF hG
      unfold Pd.val at CE
      simp only at *
      have c0 := hck 0 _ rfl
      have e0 := hdk 0 _ rfl
      have c1 := hck 1 _ rfl
      have e1 := hdk 1 _ rfl
      have c2 := hck 2 _ rfl
      have e2 := hdk 2 _ rfl
      have c3 := hck 3 _ rfl
      have e3 := hdk 3 _ rfl
      have c4 := hck 4 _ rfl
      have e4 := hdk 4 _ rfl
      have c5 := hck 5 _ rfl
      have e5 := hdk 5 _ rfl
      simp only [Nat.add_zero] at c0 c1 c2 c3 c4 c5 e0 e1 e2 e3 e4 e5
      clear hck hdk hc hc' HU HV HN HP em
      generalize m.bye = n0 at *
      generalize m.epoch = n1 at *
      generalize m.sealed.length = n2 at *
      generalize m.seen.length = n3 at *
      generalize m.planned = n4 at *
      generalize m.wrote.length = n5 at *
      generalize m'.bye = n6 at *
      generalize m'.epoch = n7 at *
      generalize m'.sealed.length = n8 at *
      generalize m'.seen.length = n9 at *
      generalize m'.planned = n10 at *
      generalize m'.wrote.length = n11 at *
      have KB : Hid (∀ W, Below wr.heap.size wr W → (W.cell? ⟨b, off + k * 6, none⟩ = some (.int .i64 n0) ∧ W.cell? ⟨b, off + k * 6 + 1, none⟩ = some (.int .i64 n1) ∧ W.cell? ⟨b, off + k * 6 + 2, none⟩ = some (.slice xsa n2 xsc) ∧ W.cell? ⟨b, off + k * 6 + 3, none⟩ = some (.slice xea n3 xec) ∧ W.cell? ⟨b, off + k * 6 + 4, none⟩ = some (.bool n4) ∧ W.cell? ⟨b, off + k * 6 + 5, none⟩ = some (.slice xwa n5 xwc)) ∧ W.cell? ⟨b', off' + k * 6, none⟩ = some (.int .i64 n6) ∧ W.cell? ⟨b', off' + k * 6 + 1, none⟩ = some (.int .i64 n7) ∧ W.cell? ⟨b', off' + k * 6 + 2, none⟩ = some (.slice zsa n8 zsc) ∧ W.cell? ⟨b', off' + k * 6 + 3, none⟩ = some (.slice zea n9 zec) ∧ W.cell? ⟨b', off' + k * 6 + 4, none⟩ = some (.bool n10) ∧ W.cell? ⟨b', off' + k * 6 + 5, none⟩ = some (.slice zwa n11 zwc)) := fun W hB => by
        have cb : ∀ {bb oo : Nat} {vv : Value}, wr.cell? ⟨bb, oo, none⟩ = some vv → W.cell? ⟨bb, oo, none⟩ = some vv := fun {bb oo vv} h => (hB.cell (p := ⟨bb, oo, none⟩) (dCell_lt h)).trans h
        exact ⟨⟨cb c0, cb c1, cb c2, cb c3, cb c4, cb c5⟩, cb e0, cb e1, cb e2, cb e3, cb e4, cb e5⟩
      have hbr : Below wr.heap.size wr wr.drew := (Below.refl _ _).drew
      go_wp2_with fail
      go_region_held3 (fun W => (W.cell? ⟨b, off + k * 6, none⟩ = some (.int .i64 n0) ∧ W.cell? ⟨b, off + k * 6 + 1, none⟩ = some (.int .i64 n1) ∧ W.cell? ⟨b, off + k * 6 + 2, none⟩ = some (.slice xsa n2 xsc) ∧ W.cell? ⟨b, off + k * 6 + 3, none⟩ = some (.slice xea n3 xec) ∧ W.cell? ⟨b, off + k * 6 + 4, none⟩ = some (.bool n4) ∧ W.cell? ⟨b, off + k * 6 + 5, none⟩ = some (.slice xwa n5 xwc)) ∧ W.cell? ⟨b', off' + k * 6, none⟩ = some (.int .i64 n6) ∧ W.cell? ⟨b', off' + k * 6 + 1, none⟩ = some (.int .i64 n7) ∧ W.cell? ⟨b', off' + k * 6 + 2, none⟩ = some (.slice zsa n8 zsc) ∧ W.cell? ⟨b', off' + k * 6 + 3, none⟩ = some (.slice zea n9 zec) ∧ W.cell? ⟨b', off' + k * 6 + 4, none⟩ = some (.bool n10) ∧ W.cell? ⟨b', off' + k * 6 + 5, none⟩ = some (.slice zwa n11 zwc)) (first | exact dUnhide KB _ hb5 | go_keep)
        (first
          | (go_at_call 46; refine (dUnhide CE _ hbr).mono ?_; rintro r w5 ⟨rfl, b5⟩; have hb5 := belowThen hbr b5))
      all_goals
        go_wp2
        go_roundw
        case rel => exact ⟨k + 1, by go_num, by omega, belowThen hb hb5⟩
        case measure => simp [intOf]; omega
    · clear HU HV HN HP em
      go_wp2
      go_ret
      exact ⟨rfl, hb⟩
theorem makeMendS (n : Nat) (h : n ≤ 1073741824) (w : World) : (Instr.makeSlice 32 (.int .i64 (n : Int)) (.int .i64 (n : Int))).run Try.prog w = .ok (.slice (some ⟨w.heap.size, 0, none⟩) n n) (w.alloc (.cells (madeCells (Value.agg #[.int .i64 0, .int .i64 0, .slice none 0 0, .slice none 0 0, .bool false, .slice none 0 0]).cells (n * 6)) 78)) := by
  obtain ⟨i0, hi, hz0, hz1, hz2⟩ := info_parts (show (Try.prog.info? 78).map (fun i => (i.zero, i.size, i.bytes)) = some (some (.agg #[.int .i64 0, .int .i64 0, .slice none 0 0, .slice none 0 0, .bool false, .slice none 0 0]), 6, 96) from by kernel_rfl)
  have := run_make (P := Try.prog) w 32 78 i0 _ Try.underlying32 hi hz0 .i64 .i64 (n : Int) (n : Int) (by omega) (by omega) (by rw [hz2]; omega) (by omega)
  rw [hz1] at this
  simpa using this
/-- Zero. -/
def zeroMendS : Pd 6 Mn := ⟨[.int .i64 0, .int .i64 0, .slice none 0 0, .slice none 0 0, .bool false, .slice none 0 0], rfl, ⟨0, 0, [], [], false, []⟩⟩
end Go.Proofs.Ytaamipmlalplbaa
