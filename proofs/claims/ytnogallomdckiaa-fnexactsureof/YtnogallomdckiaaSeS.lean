/- What was sent: their rows, and the laws' helpers on them (printed by tools/mkev.py). -/
import Derived.Test.YtnogallomdckiaaEvP
import Derived.Test.YtnogallomdckiaaGaA
import Derived.Test.YtnogallomdckiaaGaT
import Derived.Test.YtnogallomdckiaaStepP
import Derived.Deep.RegionHeld3
namespace Go.Proofs.Ytnogallomdckiaa
open Go.ChangeShapes Go.WideShapes Go.ChangeAt Go.RowKit
set_option linter.unusedVariables false
set_option linter.unusedSimpArgs false
set_option maxRecDepth 100000

/-- One of them. -/
structure Se where
  pl : Int
  data : ByteArray
  sure : Bool
def Se.cl (e : Se) : List Value := [.int .i64 e.pl, .string e.data, .bool e.sure]
def Se.val (e : Se) : Value := .agg #[.int .i64 e.pl, .string e.data, .bool e.sure]
theorem Se.cl_len (e : Se) : e.cl.length = 3 := rfl
def zeroSe : Se := ⟨0, ⟨#[]⟩, false⟩
theorem elemSent : Elem (α := Se) 108 34 (.agg #[.int .i64 0, .string ⟨#[]⟩, .bool false]) 3 32 Se.cl where
  under := Try.underlying34
  info := by kernel_rfl
  zcells := by kernel_rfl
  pos := by decide
  len := fun _ => rfl
  one := fun a u hu => by
    simp only [Se.cl, List.mem_cons, List.not_mem_nil, or_false] at hu
    rcases hu with rfl | rfl | rfl <;> rfl
/-- The cells of one of a slice. -/
def SeAt (w : World) (b o : Nat) (e : Se) : Prop := w.cell? ⟨b, o, none⟩ = some (.int .i64 e.pl) ∧ w.cell? ⟨b, o + 1, none⟩ = some (.string e.data) ∧ w.cell? ⟨b, o + 2, none⟩ = some (.bool e.sure)
theorem SeAt.below {w w' : World} {b o : Nat} {e : Se} (h : SeAt w b o e) (hb : Below w.heap.size w w') : SeAt w' b o e := by
  obtain ⟨h0, h1, h2⟩ := h
  exact ⟨(hb.cell (p := ⟨b, o, none⟩) (dCell_lt h0)).trans h0, (hb.cell (p := ⟨b, o + 1, none⟩) (dCell_lt h1)).trans h1, (hb.cell (p := ⟨b, o + 2, none⟩) (dCell_lt h2)).trans h2⟩
theorem Rw.atSe {w : World} {a : Option Addr} {n cap : Nat} {es : List Se} (h : Rw 3 Se.cl w (.slice a n cap) es) {k : Nat} (hk : k < es.length) : ∃ b off, a = some ⟨b, off, none⟩ ∧ ∀ i (hi : i < es.length), SeAt w b (off + i * 3) es[i] := by
  obtain ⟨b, off, e, hc⟩ := h.elG hk
  exact ⟨b, off, e, fun i hi => ⟨hc i hi 0 _ rfl, hc i hi 1 _ rfl, hc i hi 2 _ rfl⟩⟩
theorem makeSent (n : Nat) (h : n ≤ 1073741824) (w : World) : (Instr.makeSlice 34 (.int .i64 (n : Int)) (.int .i64 (n : Int))).run Try.prog w = .ok (.slice (some ⟨w.heap.size, 0, none⟩) n n) (w.alloc (.cells (madeCells (Value.agg #[.int .i64 0, .string ⟨#[]⟩, .bool false]).cells (n * 3)) 108)) := by
  obtain ⟨i0, hi, hz0, hz1, hz2⟩ := info_parts (elemSent).info
  have := run_make (P := Try.prog) w 34 108 i0 _ Try.underlying34 hi hz0 .i64 .i64 (n : Int) (n : Int) (by omega) (by omega) (by rw [hz2]; omega) (by omega)
  rw [hz1] at this
  simpa using this
theorem madeSent (w : World) (n : Nat) : RwZ 3 Se.cl (w.alloc (.cells (madeCells (Value.agg #[.int .i64 0, .string ⟨#[]⟩, .bool false]).cells (n * 3)) 108)) w.heap.size 0 n (fun _ => zeroSe) := RwZ.made _ zeroSe rfl Se.cl_len w n
set_option maxHeartbeats 4000000 in
theorem toSent_any (e : Se) (w : World) :
    Calls Try.prog 90 #[e.val] w fun r w' => r = .returned e.val ∧ Below w.heap.size w w' := by
  obtain ⟨y0, y1, y2⟩ := e
  unfold Se.val
  go_enter Try.func90, Try.ntmps90
  go_wp2
  go_returns
  exact ⟨rfl, by go_grown⟩
theorem szSent_any (e : Se) (left : Int) (l0 : 0 ≤ left) (l1 : left ≤ 1048576) (hs : e.data.size ≤ 9223372036854775807) (w : World) :
    Calls Try.prog 84 #[e.val, .int .i64 left] w fun r w' => r = .returned (.int .i64 (if left < (e.data.size : Int) then -1 else left - (e.data.size : Int))) ∧ Below w.heap.size w w' := by
  obtain ⟨y0, y1, y2⟩ := e
  unfold Se.val
  simp only at *
  by_cases hd : left < (y1.size : Int)
  · rw [if_pos hd]
    have hd' : left - (y1.size : Int) < 0 := by omega
    go_enter Try.func84, Try.ntmps84
    go_wp2
    go_returns
    exact ⟨rfl, by go_grown⟩
  · rw [if_neg hd]
    have hd' : ¬ (left - (y1.size : Int) < 0) := by omega
    go_enter Try.func84, Try.ntmps84
    go_wp2
    go_returns
    exact ⟨rfl, by go_grown⟩
theorem eqSent_same (e : Se) (w : World) :
    Calls Try.prog 67 #[e.val, e.val] w fun r w' => r = .returned (.bool true) ∧ Below w.heap.size w w' := by
  obtain ⟨y0, y1, y2⟩ := e
  unfold Se.val
  go_enter Try.func67, Try.ntmps67
  go_wp2
  go_returns
  exact ⟨rfl, by go_grown⟩
/-- The bytes of the texts. -/
def sumSe (es : List Se) : Nat := (es.map fun e => e.data.size).sum
theorem sumSe_take (es : List Se) (k : Nat) (h : k < es.length) : sumSe (es.take (k + 1)) = sumSe (es.take k) + es[k].data.size := by
  unfold sumSe
  rw [List.take_succ_eq_append_getElem h, List.map_append, List.sum_append, List.map_cons, List.map_nil, List.sum_cons, List.sum_nil, Nat.add_zero]
theorem sumSe_le (es : List Se) (k : Nat) : sumSe (es.take k) ≤ sumSe es := by
  unfold sumSe
  conv => rhs; rw [← List.take_append_drop k es, List.map_append, List.sum_append]
  exact Nat.le_add_right _ _
/-- Texts that are no longer than an int. -/
def txtSe (es : List Se) : Prop := ∀ e ∈ es, e.data.size ≤ 9223372036854775807
def RdSentS (v : Value) (m : List Se) (W : World) : Prop := Rw 3 Se.cl W v m
def OwSentS (lo hi : Nat) (v : Value) (m : List Se) (W : World) : Prop := OwG 3 Se.cl lo hi v m W
def sizSentS (m : List Se) : Nat := m.length + sumSe m
def cntSentS (m : List Se) : Nat := 3 * m.length
def mkSe (k : Nat) : Se := ⟨((k + 0 : Nat) : Int), markT (k + 1), ((k + 2) % 3 == 0)⟩
def mkSentS (k : Nat) (m : List Se) : List Se := (List.range m.length).map fun i => mkSe (k + 3 * i)
theorem mkSentS_len (k : Nat) (m : List Se) : (mkSentS k m).length = m.length := by simp [mkSentS]
theorem mkSentS_at (k : Nat) (m : List Se) (i : Nat) (h : i < (mkSentS k m).length) : (mkSentS k m)[i] = mkSe (k + 3 * i) := by simp [mkSentS]
theorem OwSentS.rd {lo hi : Nat} {v : Value} {m : List Se} {W : World} (h : OwSentS lo hi v m W) : RdSentS v m W := OwnRw.rw h.1
theorem RdSentS.below {v : Value} {m : List Se} {W W' : World} (h : RdSentS v m W) (b : Below W.heap.size W W') : RdSentS v m W' := Rw.below h b
theorem formSentS {v : Value} {m : List Se} {W : World} (h : RdSentS v m W) : ∃ a cap, v = .slice a m.length cap ∧ m.length ≤ 9223372036854775807 := by
  obtain ⟨h0, a, cap, rfl, -, -⟩ := h
  exact ⟨a, cap, rfl, h0⟩
theorem sitsSentS {w : World} {base : Nat} {v : Value} {m : List Se} (h : OwnRw 3 Se.cl w base v m) : Sits (OwSentS base w.heap.size v m) base w.heap.size w := OwG.sits ⟨h, h.ltZ Se.cl_len (by decide)⟩ (Nat.le_refl _)
theorem cntSentS_le {m : List Se} (h : sizSentS m ≤ 1048576) : cntSentS m ≤ 3145728 := by unfold sizSentS at h; unfold cntSentS; omega
set_option maxHeartbeats 2000000 in
theorem szSentS_ (v : Value) (es : List Se) (left : Int) (l0 : 0 ≤ left) (l1 : left ≤ 1048576) (hf : txtSe es) (w : World) (hv : RdSentS v es w) :
    Calls Try.prog 52 #[v, .int .i64 left] w fun r w' => r = .returned (.int .i64 (lft left (sizSentS es))) ∧ Below w.heap.size w w' := by
  have HV := dHide fun W (hb : Below w.heap.size w W) => Rw.below hv hb
  have HF := dHide hf
  obtain ⟨h0, a, cap, rfl, -, -⟩ := hv
  unfold sizSentS
  clear hf
  by_cases hl : left < (es.length : Int)
  · have e1 : lft left (es.length + sumSe es) = -1 := lft_no (by omega)
    rw [e1]
    have hd : left - (es.length : Int) < 0 := by omega
    clear HV HF e1
    go_enter Try.func52, Try.ntmps52
    go_wp2
    go_ret
    exact ⟨rfl, Below.refl _ _⟩
  · have hd : ¬ left - (es.length : Int) < 0 := by omega
    have LN : Hid (left < ((es.length + sumSe es : Nat) : Int) → lft left (es.length + sumSe es) = -1) := lft_no
    have LY : Hid (¬ left < ((es.length + sumSe es : Nat) : Int) → lft left (es.length + sumSe es) = left - ((es.length + sumSe es : Nat) : Int)) := lft_yes
    generalize lft left (es.length + sumSe es) = M at *
    go_enter Try.func52, Try.ntmps52
    go_wp2
    go_loopw [5, 1] (fun x y wr => ∃ (k : Nat) (q : Int), x = .int .i64 (k : Int) ∧ y = .int .i64 q ∧ k ≤ es.length ∧ 0 ≤ q ∧ q ≤ 1048576 ∧ Hid (q = left - (es.length : Int) - (sumSe (es.take k) : Int)) ∧ Below w.heap.size w wr) (fun x _ _ => es.length - (intOf x).toNat)
    case atStart => exact ⟨0, _, rfl, rfl, Nat.zero_le _, by omega, by omega, by simp [Hid, sumSe], Below.refl _ _⟩
    case round =>
      obtain ⟨k, q, rfl, rfl, hk, q0, q1, hq, hb⟩ := hrel
      by_cases hlt : (k : Int) < (es.length : Int)
      · have hkl : k < es.length := by omega
        obtain ⟨b, off, rfl, hc⟩ := (dUnhide HV wr hb).atSe hkl
        have hs := sumSe_take es k hkl
        have hs2 := sumSe_le es (k + 1)
        have CE := dHide fun W => szSent_any es[k] q q0 q1 (dUnhide HF _ (List.getElem_mem hkl)) W
        obtain ⟨c0, c1, c2⟩ := hc k hkl
        have hq' := dUnhide hq
        generalize es[k] = y at *
        obtain ⟨y0, y1, y2⟩ := y
        unfold Se.val at CE
        simp only at *
        by_cases hn : q < (y1.size : Int)
        · rw [if_pos hn] at CE
          have e1 := dUnhide LN (by omega)
          subst e1
          clear hc HV HF hq' hq hs hs2 hn LN LY
          go_wp2_with fail
          refine (dUnhide CE _).mono ?_
          rintro r w2 ⟨rfl, b2⟩
          have hb2 := belowThen hb b2
          clear CE b2 c0 c1 c2 hb
          go_wp2
          go_ret
          exact ⟨rfl, hb2⟩
        · rw [if_neg hn] at CE
          have e1 : Hid (q - (y1.size : Int) = left - (es.length : Int) - (sumSe (es.take (k + 1)) : Int)) := by rw [Hid, hs]; omega
          have q0' : 0 ≤ q - (y1.size : Int) := by omega
          have q1' : q - (y1.size : Int) ≤ 1048576 := by omega
          generalize q - (y1.size : Int) = q' at *
          have hd' : ¬ q' < 0 := by omega
          clear hc hq' hq hs hs2 hn
          go_wp2_with fail
          refine (dUnhide CE _).mono ?_
          rintro r w2 ⟨rfl, b2⟩
          have hb2 := belowThen hb b2
          clear CE b2 c0 c1 c2 hb
          go_wp2
          go_roundw
          case rel => exact ⟨k + 1, q', by go_num, rfl, by omega, q0', q1', e1, hb2⟩
          case measure => simp [intOf]; omega
      · have e1 : es.take k = es := List.take_of_length_le (by omega)
        have hq' := dUnhide hq
        rw [e1] at hq'
        have e2 := dUnhide LY (by omega)
        have e3 : Hid (q = M) := by rw [Hid, e2, hq']; omega
        clear hq hq' e1 e2 LN LY HV HF
        go_wp2
        go_ret
        exact ⟨by rw [← dUnhide e3]; rfl, hb⟩
set_option maxHeartbeats 4000000 in
theorem eqSentS_ (u v : Value) (es : List Se) (w : World) (hu : RdSentS u es w) (hv : RdSentS v es w) :
    Calls Try.prog 31 #[u, v] w fun r w' => r = .returned (.bool true) ∧ Below w.heap.size w w' := by
  have HU := dHide fun W (hb : Below w.heap.size w W) => Rw.below hu hb
  have HV := dHide fun W (hb : Below w.heap.size w W) => Rw.below hv hb
  obtain ⟨h0, a, cap, rfl, -, -⟩ := hu
  obtain ⟨h0', a', cap', rfl, -, -⟩ := hv
  go_enter Try.func31, Try.ntmps31
  go_wp2
  go_loopw [5] (fun i wr => ∃ k : Nat, i = .int .i64 (k : Int) ∧ k ≤ es.length ∧ Below w.heap.size w wr) (fun i _ => es.length - (intOf i).toNat)
  case atStart => exact ⟨0, rfl, Nat.zero_le _, Below.refl _ _⟩
  case round =>
    obtain ⟨k, rfl, hk, hb⟩ := hrel
    by_cases hlt : (k : Int) < (es.length : Int)
    · have hkl : k < es.length := by omega
      obtain ⟨b, off, rfl, hc⟩ := (dUnhide HU wr hb).atSe hkl
      obtain ⟨b', off', rfl, hc'⟩ := (dUnhide HV wr hb).atSe hkl
      have E1 := dHide (hc k hkl)
      have E2 := dHide (hc' k hkl)
      obtain ⟨c0, c1, c2⟩ := hc k hkl
      obtain ⟨e0, e1, e2⟩ := hc' k hkl
      have CE := dHide (eqSent_same es[k])
      generalize es[k] = y at *
      obtain ⟨y0, y1, y2⟩ := y
      unfold Se.val at CE
      simp only at *
      clear hc hc' HU HV
      have hbr : Below wr.heap.size wr wr.drew := (Below.refl _ _).drew
      go_wp2_with fail
      go_region_held3 (fun W => (W.cell? ⟨b, off + k * 3, none⟩ = some (.int .i64 y0) ∧ W.cell? ⟨b, off + k * 3 + 1, none⟩ = some (.string y1) ∧ W.cell? ⟨b, off + k * 3 + 2, none⟩ = some (.bool y2)) ∧ W.cell? ⟨b', off' + k * 3, none⟩ = some (.int .i64 y0) ∧ W.cell? ⟨b', off' + k * 3 + 1, none⟩ = some (.string y1) ∧ W.cell? ⟨b', off' + k * 3 + 2, none⟩ = some (.bool y2)) (first | exact ⟨(dUnhide E1).below hb5, (dUnhide E2).below hb5⟩ | go_keep)
        (first
          | (go_at_call 67; refine (dUnhide CE _).mono ?_; rintro r w5 ⟨rfl, b5⟩; have hb5 := belowThen hbr b5))
      all_goals
        go_wp2
        go_roundw
        case rel => exact ⟨k + 1, by go_num, by omega, belowThen hb hb5⟩
        case measure => simp [intOf]; omega
    · clear HU HV
      go_wp2
      go_ret
      exact ⟨rfl, hb⟩
theorem zallSe {w : World} {b off n k : Nat} {f : Nat → Se} (h : RwZ 3 Se.cl w b off n f) (hk : k < n) (e : Se) :
    RwZ 3 Se.cl (((w.setCell ⟨b, off + k * 3, none⟩ (.int .i64 e.pl)).setCell ⟨b, off + k * 3 + 1, none⟩ (.string e.data)).setCell ⟨b, off + k * 3 + 2, none⟩ (.bool e.sure)) b off n (putZ f k e) := by
  have h1 := h.cell Se.cl_len hk 0 (by decide) (.int .i64 e.pl) ⟨e.pl, (f k).data, (f k).sure⟩ (by rfl)
  have h2 := h1.cell Se.cl_len hk 1 (by decide) (.string e.data) ⟨e.pl, e.data, (f k).sure⟩ (by simp only [putZ_same]; rfl)
  rw [putZ_twice] at h2
  have h3 := h2.cell Se.cl_len hk 2 (by decide) (.bool e.sure) ⟨e.pl, e.data, e.sure⟩ (by simp only [putZ_same]; rfl)
  rw [putZ_twice] at h3
  exact h3
set_option maxHeartbeats 2000000 in
theorem toSentS_own (v : Value) (es : List Se) (w : World) (hl : es.length ≤ 1048576) (hv : RdSentS v es w) :
    Calls Try.prog 59 #[v] w fun r w' => (∃ u, r = .returned u ∧ OwnRw 3 Se.cl w' w.heap.size u es) ∧ Below w.heap.size w w' := by
  have HV := dHide fun W (hb : Below w.heap.size w W) => Rw.below hv hb
  obtain ⟨h0, a, cap, rfl, -, -⟩ := hv
  have hmk := makeSent es.length (by omega)
  have MZ := dHide (madeSent w es.length)
  generalize madeCells (Value.agg #[.int .i64 0, .string ⟨#[]⟩, .bool false]).cells (es.length * 3) = ZC at *
  go_enter Try.func59, Try.ntmps59
  go_wp2
  go_loopw [4] (fun x wr => ∃ (k : Nat) (f : Nat → Se), x = .int .i64 (k : Int) ∧ k ≤ es.length ∧ Hid (RwZ 3 Se.cl wr w.heap.size 0 es.length f ∧ ∀ i (h : i < es.length), i < k → f i = es[i]) ∧ Below w.heap.size w wr) (fun x _ => es.length - (intOf x).toNat)
  case atStart => exact ⟨0, _, rfl, Nat.zero_le _, ⟨dUnhide MZ, fun i h h' => by omega⟩, (Below.refl _ _).alloc (Nat.le_refl _) _⟩
  case round =>
    obtain ⟨k, f, rfl, hk, hz, hb⟩ := hrel
    by_cases hlt : (k : Int) < (es.length : Int)
    · have hkl : k < es.length := by omega
      obtain ⟨b, off, rfl, hc⟩ := (dUnhide HV wr hb).atSe hkl
      obtain ⟨c0, c1, c2⟩ := hc k hkl
      have CE := dHide fun W => toSent_any es[k] W
      have hst : Hid (∀ W, Below wr.heap.size wr W → RwZ 3 Se.cl W w.heap.size 0 es.length f) := fun W hB => (dUnhide hz).1.below hB
      have hin : Hid (∀ i (h : i < es.length), i < k + 1 → putZ f k es[k] i = es[i]) := fun i h h' => by
        unfold putZ
        split
        · rename_i e; subst e; rfl
        · rename_i e; exact (dUnhide hz).2 i h (by omega)
      generalize es[k] = y at *
      obtain ⟨y0, y1, y2⟩ := y
      unfold Se.val at CE
      simp only at *
      clear hc hz
      go_wp2_with fail
      refine (dUnhide CE _).mono ?_
      rintro r w2 ⟨rfl, b2⟩
      have Z2 := dUnhide hst w2 b2
      obtain ⟨z0, f0⟩ := Z2 k hkl 0 _ rfl
      obtain ⟨z1, f1⟩ := Z2 k hkl 1 _ rfl
      obtain ⟨z2, f2⟩ := Z2 k hkl 2 _ rfl
      have Z3 := dHide (zallSe Z2 hkl ⟨y0, y1, y2⟩)
      simp only [Nat.zero_add, Nat.add_zero] at z0 z1 z2 f0 f1 f2 Z3
      have hb2 := belowThen hb b2
      have hb3 := dHide (((hb2.setCell (p := ⟨w.heap.size, k * 3, none⟩) (Nat.le_refl _) (.int .i64 y0)).setCell (p := ⟨w.heap.size, k * 3 + 1, none⟩) (Nat.le_refl _) (.string y1)).setCell (p := ⟨w.heap.size, k * 3 + 2, none⟩) (Nat.le_refl _) (.bool y2))
      clear CE b2 c0 c1 c2 hb hst Z2 hb2
      go_wp2
      go_roundw
      case rel => exact ⟨k + 1, _, by go_num, by omega, ⟨dUnhide Z3, dUnhide hin⟩, dUnhide hb3⟩
      case measure => simp [intOf]; omega
    · have O : Hid (OwnRw 3 Se.cl wr w.heap.size (.slice (some ⟨w.heap.size, 0, none⟩) es.length es.length) es) := (dUnhide hz).1.own rfl (fun i hi => (dUnhide hz).2 i hi (by omega)) (Nat.le_refl _) (by omega) (by omega)
      clear hz HV
      go_wp2
      go_ret
      exact ⟨⟨_, rfl, dUnhide O⟩, hb⟩
theorem toSentS_ (v : Value) (m : List Se) (w : World) (hl : sizSentS m ≤ 1048576) (h : RdSentS v m w) :
    Calls Try.prog 59 #[v] w fun e w' => ∃ u, e = .returned u ∧ Sits (OwSentS w.heap.size w'.heap.size u m) w.heap.size w'.heap.size w' ∧ Below w.heap.size w w' :=
  (toSentS_own v m w (by unfold sizSentS at hl; omega) h).mono fun e w' ⟨⟨u, h1, h2⟩, h3⟩ => ⟨u, h1, sitsSentS h2, h3⟩
theorem Wr.setSe {lo hi b o : Nat} {w wr : World} (h : Wr lo hi w wr) (h1 : lo ≤ b) (h2 : b < hi) (u : Value) : Wr lo hi w (wr.setCell ⟨b, o, none⟩ u) :=
  h.trans ⟨rfl, rfl, rfl, by simp, fun k hk hn => Below.heap_setCell _ _ _ k (fun e => by simp at e; omega)⟩
theorem mkSe_at (K : Nat) : mkSe K = ⟨(K : Int), markT (K + 1), (((K : Int) + 1 + 1) % 3 == 0)⟩ := by
  unfold mkSe
  have e0 : ((K + 0 : Nat) : Int) = (K : Int) := by omega
  have e2 : ((K + 2) % 3 == 0) = (((K : Int) + 1 + 1) % 3 == 0) := by
    by_cases h : (K + 2) % 3 = 0
    · have h' : ((K : Int) + 1 + 1) % 3 = 0 := by omega
      rw [h, h']; rfl
    · have h' : ¬ ((K : Int) + 1 + 1) % 3 = 0 := by omega
      rw [beq_eq_false_iff_ne.2 h, beq_eq_false_iff_ne.2 h']
  rw [e0, e2]
end Go.Proofs.Ytnogallomdckiaa
