/- What was sent: their rows, and the laws' helpers on them (printed by tools/mkev.py). -/
import Derived.Test.YtaamipmlalplbaaEvP
import Derived.Test.YtaamipmlalplbaaGaA
import Derived.Test.YtaamipmlalplbaaGaT
import Derived.Test.YtaamipmlalplbaaStepP
import Derived.Deep.RegionHeld3
namespace Go.Proofs.Ytaamipmlalplbaa
open Go.ChangeShapes Go.WideShapes Go.ChangeAt Go.RowKit
set_option linter.unusedVariables false
set_option linter.unusedSimpArgs false
set_option maxRecDepth 100000

/-- One of them. -/
structure Se where
  pl : Int
  data : ByteArray
  sure : Bool
def Se.cl (e : Se) : List Value := [.int .i64 e.pl, .string e.data, .bool e.sure]
def Se.val (e : Se) : Value := .agg #[.int .i64 e.pl, .string e.data, .bool e.sure]
theorem Se.cl_len (e : Se) : e.cl.length = 3 := rfl
def zeroSe : Se := ⟨0, ⟨#[]⟩, false⟩
theorem elemSent : Elem (α := Se) 82 34 (.agg #[.int .i64 0, .string ⟨#[]⟩, .bool false]) 3 32 Se.cl where
  under := Try.underlying34
  info := by kernel_rfl
  zcells := by kernel_rfl
  pos := by decide
  len := fun _ => rfl
  one := fun a u hu => by
    simp only [Se.cl, List.mem_cons, List.not_mem_nil, or_false] at hu
    rcases hu with rfl | rfl | rfl <;> rfl
/-- The cells of one of a slice. -/
def SeAt (w : World) (b o : Nat) (e : Se) : Prop := w.cell? ⟨b, o, none⟩ = some (.int .i64 e.pl) ∧ w.cell? ⟨b, o + 1, none⟩ = some (.string e.data) ∧ w.cell? ⟨b, o + 2, none⟩ = some (.bool e.sure)
theorem SeAt.below {w w' : World} {b o : Nat} {e : Se} (h : SeAt w b o e) (hb : Below w.heap.size w w') : SeAt w' b o e := by
  obtain ⟨h0, h1, h2⟩ := h
  exact ⟨(hb.cell (p := ⟨b, o, none⟩) (dCell_lt h0)).trans h0, (hb.cell (p := ⟨b, o + 1, none⟩) (dCell_lt h1)).trans h1, (hb.cell (p := ⟨b, o + 2, none⟩) (dCell_lt h2)).trans h2⟩
theorem Rw.atSe {w : World} {a : Option Addr} {n cap : Nat} {es : List Se} (h : Rw 3 Se.cl w (.slice a n cap) es) {k : Nat} (hk : k < es.length) : ∃ b off, a = some ⟨b, off, none⟩ ∧ ∀ i (hi : i < es.length), SeAt w b (off + i * 3) es[i] := by
  obtain ⟨b, off, e, hc⟩ := h.elG hk
  exact ⟨b, off, e, fun i hi => ⟨hc i hi 0 _ rfl, hc i hi 1 _ rfl, hc i hi 2 _ rfl⟩⟩
theorem makeSent (n : Nat) (h : n ≤ 1073741824) (w : World) : (Instr.makeSlice 34 (.int .i64 (n : Int)) (.int .i64 (n : Int))).run Try.prog w = .ok (.slice (some ⟨w.heap.size, 0, none⟩) n n) (w.alloc (.cells (madeCells (Value.agg #[.int .i64 0, .string ⟨#[]⟩, .bool false]).cells (n * 3)) 82)) := by
  obtain ⟨i0, hi, hz0, hz1, hz2⟩ := info_parts (elemSent).info
  have := run_make (P := Try.prog) w 34 82 i0 _ Try.underlying34 hi hz0 .i64 .i64 (n : Int) (n : Int) (by omega) (by omega) (by rw [hz2]; omega) (by omega)
  rw [hz1] at this
  simpa using this
theorem madeSent (w : World) (n : Nat) : RwZ 3 Se.cl (w.alloc (.cells (madeCells (Value.agg #[.int .i64 0, .string ⟨#[]⟩, .bool false]).cells (n * 3)) 82)) w.heap.size 0 n (fun _ => zeroSe) := RwZ.made _ zeroSe rfl Se.cl_len w n
theorem eqSent_same (e : Se) (w : World) :
    Calls Try.prog 48 #[e.val, e.val] w fun r w' => r = .returned (.bool true) ∧ Below w.heap.size w w' := by
  obtain ⟨y0, y1, y2⟩ := e
  unfold Se.val
  go_enter Try.func48, Try.ntmps48
  go_wp2
  go_returns
  exact ⟨rfl, by go_grown⟩
/-- The bytes of the texts. -/
def sumSe (es : List Se) : Nat := (es.map fun e => e.data.size).sum
theorem sumSe_take (es : List Se) (k : Nat) (h : k < es.length) : sumSe (es.take (k + 1)) = sumSe (es.take k) + es[k].data.size := by
  unfold sumSe
  rw [List.take_succ_eq_append_getElem h, List.map_append, List.sum_append, List.map_cons, List.map_nil, List.sum_cons, List.sum_nil, Nat.add_zero]
theorem sumSe_le (es : List Se) (k : Nat) : sumSe (es.take k) ≤ sumSe es := by
  unfold sumSe
  conv => rhs; rw [← List.take_append_drop k es, List.map_append, List.sum_append]
  exact Nat.le_add_right _ _
/-- Texts that are no longer than an int. -/
def txtSe (es : List Se) : Prop := ∀ e ∈ es, e.data.size ≤ 9223372036854775807
def RdSentS (v : Value) (m : List Se) (W : World) : Prop := Rw 3 Se.cl W v m
def OwSentS (lo hi : Nat) (v : Value) (m : List Se) (W : World) : Prop := OwG 3 Se.cl lo hi v m W
def sizSentS (m : List Se) : Nat := m.length + sumSe m
def cntSentS (m : List Se) : Nat := 3 * m.length
def mkSe (k : Nat) : Se := ⟨((k + 0 : Nat) : Int), markT (k + 1), ((k + 2) % 3 == 0)⟩
def mkSentS (k : Nat) (m : List Se) : List Se := (List.range m.length).map fun i => mkSe (k + 3 * i)
theorem mkSentS_len (k : Nat) (m : List Se) : (mkSentS k m).length = m.length := by simp [mkSentS]
theorem mkSentS_at (k : Nat) (m : List Se) (i : Nat) (h : i < (mkSentS k m).length) : (mkSentS k m)[i] = mkSe (k + 3 * i) := by simp [mkSentS]
theorem OwSentS.rd {lo hi : Nat} {v : Value} {m : List Se} {W : World} (h : OwSentS lo hi v m W) : RdSentS v m W := OwnRw.rw h.1
theorem RdSentS.below {v : Value} {m : List Se} {W W' : World} (h : RdSentS v m W) (b : Below W.heap.size W W') : RdSentS v m W' := Rw.below h b
theorem formSentS {v : Value} {m : List Se} {W : World} (h : RdSentS v m W) : ∃ a cap, v = .slice a m.length cap ∧ m.length ≤ 9223372036854775807 := by
  obtain ⟨h0, a, cap, rfl, -, -⟩ := h
  exact ⟨a, cap, rfl, h0⟩
theorem sitsSentS {w : World} {base : Nat} {v : Value} {m : List Se} (h : OwnRw 3 Se.cl w base v m) : Sits (OwSentS base w.heap.size v m) base w.heap.size w := OwG.sits ⟨h, h.ltZ Se.cl_len (by decide)⟩ (Nat.le_refl _)
theorem cntSentS_le {m : List Se} (h : sizSentS m ≤ 1048576) : cntSentS m ≤ 3145728 := by unfold sizSentS at h; unfold cntSentS; omega
set_option maxHeartbeats 4000000 in
theorem eqSentS_ (u v : Value) (es : List Se) (w : World) (hu : RdSentS u es w) (hv : RdSentS v es w) :
    Calls Try.prog 26 #[u, v] w fun r w' => r = .returned (.bool true) ∧ Below w.heap.size w w' := by
  have HU := dHide fun W (hb : Below w.heap.size w W) => Rw.below hu hb
  have HV := dHide fun W (hb : Below w.heap.size w W) => Rw.below hv hb
  obtain ⟨h0, a, cap, rfl, -, -⟩ := hu
  obtain ⟨h0', a', cap', rfl, -, -⟩ := hv
  go_enter Try.func26, Try.ntmps26
  go_wp2
  go_loopw [5] (fun i wr => ∃ k : Nat, i = .int .i64 (k : Int) ∧ k ≤ es.length ∧ Below w.heap.size w wr) (fun i _ => es.length - (intOf i).toNat)
  case atStart => exact ⟨0, rfl, Nat.zero_le _, Below.refl _ _⟩
  case round =>
    obtain ⟨k, rfl, hk, hb⟩ := hrel
    by_cases hlt : (k : Int) < (es.length : Int)
    · have hkl : k < es.length := by omega
      obtain ⟨b, off, rfl, hc⟩ := (dUnhide HU wr hb).atSe hkl
      obtain ⟨b', off', rfl, hc'⟩ := (dUnhide HV wr hb).atSe hkl
      have E1 := dHide (hc k hkl)
      have E2 := dHide (hc' k hkl)
      obtain ⟨c0, c1, c2⟩ := hc k hkl
      obtain ⟨e0, e1, e2⟩ := hc' k hkl
      have CE := dHide (eqSent_same es[k])
      generalize es[k] = y at *
      obtain ⟨y0, y1, y2⟩ := y
      unfold Se.val at CE
      simp only at *
      clear hc hc' HU HV
      have hbr : Below wr.heap.size wr wr.drew := (Below.refl _ _).drew
      go_wp2_with fail
      go_region_held3 (fun W => (W.cell? ⟨b, off + k * 3, none⟩ = some (.int .i64 y0) ∧ W.cell? ⟨b, off + k * 3 + 1, none⟩ = some (.string y1) ∧ W.cell? ⟨b, off + k * 3 + 2, none⟩ = some (.bool y2)) ∧ W.cell? ⟨b', off' + k * 3, none⟩ = some (.int .i64 y0) ∧ W.cell? ⟨b', off' + k * 3 + 1, none⟩ = some (.string y1) ∧ W.cell? ⟨b', off' + k * 3 + 2, none⟩ = some (.bool y2)) (first | exact ⟨(dUnhide E1).below hb5, (dUnhide E2).below hb5⟩ | go_keep)
        (first
          | (go_at_call 48; refine (dUnhide CE _).mono ?_; rintro r w5 ⟨rfl, b5⟩; have hb5 := belowThen hbr b5))
      all_goals
        go_wp2
        go_roundw
        case rel => exact ⟨k + 1, by go_num, by omega, belowThen hb hb5⟩
        case measure => simp [intOf]; omega
    · clear HU HV
      go_wp2
      go_ret
      exact ⟨rfl, hb⟩
theorem zallSe {w : World} {b off n k : Nat} {f : Nat → Se} (h : RwZ 3 Se.cl w b off n f) (hk : k < n) (e : Se) :
    RwZ 3 Se.cl (((w.setCell ⟨b, off + k * 3, none⟩ (.int .i64 e.pl)).setCell ⟨b, off + k * 3 + 1, none⟩ (.string e.data)).setCell ⟨b, off + k * 3 + 2, none⟩ (.bool e.sure)) b off n (putZ f k e) := by
  have h1 := h.cell Se.cl_len hk 0 (by decide) (.int .i64 e.pl) ⟨e.pl, (f k).data, (f k).sure⟩ (by rfl)
  have h2 := h1.cell Se.cl_len hk 1 (by decide) (.string e.data) ⟨e.pl, e.data, (f k).sure⟩ (by simp only [putZ_same]; rfl)
  rw [putZ_twice] at h2
  have h3 := h2.cell Se.cl_len hk 2 (by decide) (.bool e.sure) ⟨e.pl, e.data, e.sure⟩ (by simp only [putZ_same]; rfl)
  rw [putZ_twice] at h3
  exact h3
theorem Wr.setSe {lo hi b o : Nat} {w wr : World} (h : Wr lo hi w wr) (h1 : lo ≤ b) (h2 : b < hi) (u : Value) : Wr lo hi w (wr.setCell ⟨b, o, none⟩ u) :=
  h.trans ⟨rfl, rfl, rfl, by simp, fun k hk hn => Below.heap_setCell _ _ _ k (fun e => by simp at e; omega)⟩
theorem mkSe_at (K : Nat) : mkSe K = ⟨(K : Int), markT (K + 1), (((K : Int) + 1 + 1) % 3 == 0)⟩ := by
  unfold mkSe
  have e0 : ((K + 0 : Nat) : Int) = (K : Int) := by omega
  have e2 : ((K + 2) % 3 == 0) = (((K : Int) + 1 + 1) % 3 == 0) := by
    by_cases h : (K + 2) % 3 = 0
    · have h' : ((K : Int) + 1 + 1) % 3 = 0 := by omega
      rw [h, h']; rfl
    · have h' : ¬ ((K : Int) + 1 + 1) % 3 = 0 := by omega
      rw [beq_eq_false_iff_ne.2 h, beq_eq_false_iff_ne.2 h']
  rw [e0, e2]
end Go.Proofs.Ytaamipmlalplbaa
