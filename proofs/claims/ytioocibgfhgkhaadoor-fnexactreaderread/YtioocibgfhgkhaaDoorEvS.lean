/- Events: their rows, and the laws' helpers on them (printed by tools/mkev.py). -/
import Derived.Test.YtioocibgfhgkhaaDoorEvP
import Derived.Test.YtioocibgfhgkhaaDoorGaA
import Derived.Test.YtioocibgfhgkhaaDoorGaT
import Derived.Test.YtioocibgfhgkhaaDoorStepP
import Derived.Deep.RegionHeld3
namespace Go.Proofs.YtioocibgfhgkhaaDoor
open Go.ChangeShapes Go.WideShapes Go.ChangeAt Go.RowKit
set_option linter.unusedVariables false
set_option linter.unusedSimpArgs false
set_option maxRecDepth 100000

/-- One of them. -/
structure Ev where
  kind : Int
  pl : Int
  data : ByteArray
def Ev.cl (e : Ev) : List Value := [.int .i64 e.kind, .int .i64 e.pl, .string e.data]
def Ev.val (e : Ev) : Value := .agg #[.int .i64 e.kind, .int .i64 e.pl, .string e.data]
theorem Ev.cl_len (e : Ev) : e.cl.length = 3 := rfl
def zeroEv : Ev := ⟨0, 0, ⟨#[]⟩⟩
theorem elemEvent : Elem (α := Ev) 56 34 (.agg #[.int .i64 0, .int .i64 0, .string ⟨#[]⟩]) 3 32 Ev.cl where
  under := Tryd.underlying34
  info := by kernel_rfl
  zcells := by kernel_rfl
  pos := by decide
  len := fun _ => rfl
  one := fun a u hu => by
    simp only [Ev.cl, List.mem_cons, List.not_mem_nil, or_false] at hu
    rcases hu with rfl | rfl | rfl <;> rfl
/-- The cells of one of a slice. -/
def EvAt (w : World) (b o : Nat) (e : Ev) : Prop := w.cell? ⟨b, o, none⟩ = some (.int .i64 e.kind) ∧ w.cell? ⟨b, o + 1, none⟩ = some (.int .i64 e.pl) ∧ w.cell? ⟨b, o + 2, none⟩ = some (.string e.data)
theorem EvAt.below {w w' : World} {b o : Nat} {e : Ev} (h : EvAt w b o e) (hb : Below w.heap.size w w') : EvAt w' b o e := by
  obtain ⟨h0, h1, h2⟩ := h
  exact ⟨(hb.cell (p := ⟨b, o, none⟩) (dCell_lt h0)).trans h0, (hb.cell (p := ⟨b, o + 1, none⟩) (dCell_lt h1)).trans h1, (hb.cell (p := ⟨b, o + 2, none⟩) (dCell_lt h2)).trans h2⟩
theorem Rw.atEv {w : World} {a : Option Addr} {n cap : Nat} {es : List Ev} (h : Rw 3 Ev.cl w (.slice a n cap) es) {k : Nat} (hk : k < es.length) : ∃ b off, a = some ⟨b, off, none⟩ ∧ ∀ i (hi : i < es.length), EvAt w b (off + i * 3) es[i] := by
  obtain ⟨b, off, e, hc⟩ := h.elG hk
  exact ⟨b, off, e, fun i hi => ⟨hc i hi 0 _ rfl, hc i hi 1 _ rfl, hc i hi 2 _ rfl⟩⟩
theorem makeEvent (n : Nat) (h : n ≤ 1073741824) (w : World) : (Instr.makeSlice 34 (.int .i64 (n : Int)) (.int .i64 (n : Int))).run Tryd.prog w = .ok (.slice (some ⟨w.heap.size, 0, none⟩) n n) (w.alloc (.cells (madeCells (Value.agg #[.int .i64 0, .int .i64 0, .string ⟨#[]⟩]).cells (n * 3)) 56)) := by
  obtain ⟨i0, hi, hz0, hz1, hz2⟩ := info_parts (elemEvent).info
  have := run_make (P := Tryd.prog) w 34 56 i0 _ Tryd.underlying34 hi hz0 .i64 .i64 (n : Int) (n : Int) (by omega) (by omega) (by rw [hz2]; omega) (by omega)
  rw [hz1] at this
  simpa using this
theorem madeEvent (w : World) (n : Nat) : RwZ 3 Ev.cl (w.alloc (.cells (madeCells (Value.agg #[.int .i64 0, .int .i64 0, .string ⟨#[]⟩]).cells (n * 3)) 56)) w.heap.size 0 n (fun _ => zeroEv) := RwZ.made _ zeroEv rfl Ev.cl_len w n
theorem eqEvent_same (e : Ev) (w : World) :
    Calls Tryd.prog 51 #[e.val, e.val] w fun r w' => r = .returned (.bool true) ∧ Below w.heap.size w w' := by
  obtain ⟨y0, y1, y2⟩ := e
  unfold Ev.val
  go_enter Tryd.func51, Tryd.ntmps51
  go_wp2
  go_returns
  exact ⟨rfl, by go_grown⟩
/-- The bytes of the texts. -/
def sumEv (es : List Ev) : Nat := (es.map fun e => e.data.size).sum
theorem sumEv_take (es : List Ev) (k : Nat) (h : k < es.length) : sumEv (es.take (k + 1)) = sumEv (es.take k) + es[k].data.size := by
  unfold sumEv
  rw [List.take_succ_eq_append_getElem h, List.map_append, List.sum_append, List.map_cons, List.map_nil, List.sum_cons, List.sum_nil, Nat.add_zero]
theorem sumEv_le (es : List Ev) (k : Nat) : sumEv (es.take k) ≤ sumEv es := by
  unfold sumEv
  conv => rhs; rw [← List.take_append_drop k es, List.map_append, List.sum_append]
  exact Nat.le_add_right _ _
/-- Texts that are no longer than an int. -/
def txtEv (es : List Ev) : Prop := ∀ e ∈ es, e.data.size ≤ 9223372036854775807
def RdEventS (v : Value) (m : List Ev) (W : World) : Prop := Rw 3 Ev.cl W v m
def OwEventS (lo hi : Nat) (v : Value) (m : List Ev) (W : World) : Prop := OwG 3 Ev.cl lo hi v m W
def sizEventS (m : List Ev) : Nat := m.length + sumEv m
def cntEventS (m : List Ev) : Nat := 3 * m.length
def mkEv (k : Nat) : Ev := ⟨((k + 0 : Nat) : Int), ((k + 1 : Nat) : Int), markT (k + 2)⟩
def mkEventS (k : Nat) (m : List Ev) : List Ev := (List.range m.length).map fun i => mkEv (k + 3 * i)
theorem mkEventS_len (k : Nat) (m : List Ev) : (mkEventS k m).length = m.length := by simp [mkEventS]
theorem mkEventS_at (k : Nat) (m : List Ev) (i : Nat) (h : i < (mkEventS k m).length) : (mkEventS k m)[i] = mkEv (k + 3 * i) := by simp [mkEventS]
theorem OwEventS.rd {lo hi : Nat} {v : Value} {m : List Ev} {W : World} (h : OwEventS lo hi v m W) : RdEventS v m W := OwnRw.rw h.1
theorem RdEventS.below {v : Value} {m : List Ev} {W W' : World} (h : RdEventS v m W) (b : Below W.heap.size W W') : RdEventS v m W' := Rw.below h b
theorem formEventS {v : Value} {m : List Ev} {W : World} (h : RdEventS v m W) : ∃ a cap, v = .slice a m.length cap ∧ m.length ≤ 9223372036854775807 := by
  obtain ⟨h0, a, cap, rfl, -, -⟩ := h
  exact ⟨a, cap, rfl, h0⟩
theorem sitsEventS {w : World} {base : Nat} {v : Value} {m : List Ev} (h : OwnRw 3 Ev.cl w base v m) : Sits (OwEventS base w.heap.size v m) base w.heap.size w := OwG.sits ⟨h, h.ltZ Ev.cl_len (by decide)⟩ (Nat.le_refl _)
theorem cntEventS_le {m : List Ev} (h : sizEventS m ≤ 1048576) : cntEventS m ≤ 3145728 := by unfold sizEventS at h; unfold cntEventS; omega
set_option maxHeartbeats 4000000 in
theorem eqEventS_ (u v : Value) (es : List Ev) (w : World) (hu : RdEventS u es w) (hv : RdEventS v es w) :
    Calls Tryd.prog 31 #[u, v] w fun r w' => r = .returned (.bool true) ∧ Below w.heap.size w w' := by
  have HU := dHide fun W (hb : Below w.heap.size w W) => Rw.below hu hb
  have HV := dHide fun W (hb : Below w.heap.size w W) => Rw.below hv hb
  obtain ⟨h0, a, cap, rfl, -, -⟩ := hu
  obtain ⟨h0', a', cap', rfl, -, -⟩ := hv
  go_enter Tryd.func31, Tryd.ntmps31
  go_wp2
  go_loopw [5] (fun i wr => ∃ k : Nat, i = .int .i64 (k : Int) ∧ k ≤ es.length ∧ Below w.heap.size w wr) (fun i _ => es.length - (intOf i).toNat)
  case atStart => exact ⟨0, rfl, Nat.zero_le _, Below.refl _ _⟩
  case round =>
    obtain ⟨k, rfl, hk, hb⟩ := hrel
    by_cases hlt : (k : Int) < (es.length : Int)
    · have hkl : k < es.length := by omega
      obtain ⟨b, off, rfl, hc⟩ := (dUnhide HU wr hb).atEv hkl
      obtain ⟨b', off', rfl, hc'⟩ := (dUnhide HV wr hb).atEv hkl
      have E1 := dHide (hc k hkl)
      have E2 := dHide (hc' k hkl)
      obtain ⟨c0, c1, c2⟩ := hc k hkl
      obtain ⟨e0, e1, e2⟩ := hc' k hkl
      have CE := dHide (eqEvent_same es[k])
      generalize es[k] = y at *
      obtain ⟨y0, y1, y2⟩ := y
      unfold Ev.val at CE
      simp only at *
      clear hc hc' HU HV
      have hbr : Below wr.heap.size wr wr.drew := (Below.refl _ _).drew
      go_wp2_with fail
      go_region_held3 (fun W => (W.cell? ⟨b, off + k * 3, none⟩ = some (.int .i64 y0) ∧ W.cell? ⟨b, off + k * 3 + 1, none⟩ = some (.int .i64 y1) ∧ W.cell? ⟨b, off + k * 3 + 2, none⟩ = some (.string y2)) ∧ W.cell? ⟨b', off' + k * 3, none⟩ = some (.int .i64 y0) ∧ W.cell? ⟨b', off' + k * 3 + 1, none⟩ = some (.int .i64 y1) ∧ W.cell? ⟨b', off' + k * 3 + 2, none⟩ = some (.string y2)) (first | exact ⟨(dUnhide E1).below hb5, (dUnhide E2).below hb5⟩ | go_keep)
        (first
          | (go_at_call 51; refine (dUnhide CE _).mono ?_; rintro r w5 ⟨rfl, b5⟩; have hb5 := belowThen hbr b5))
      all_goals
        go_wp2
        go_roundw
        case rel => exact ⟨k + 1, by go_num, by omega, belowThen hb hb5⟩
        case measure => simp [intOf]; omega
    · clear HU HV
      go_wp2
      go_ret
      exact ⟨rfl, hb⟩
theorem zallEv {w : World} {b off n k : Nat} {f : Nat → Ev} (h : RwZ 3 Ev.cl w b off n f) (hk : k < n) (e : Ev) :
    RwZ 3 Ev.cl (((w.setCell ⟨b, off + k * 3, none⟩ (.int .i64 e.kind)).setCell ⟨b, off + k * 3 + 1, none⟩ (.int .i64 e.pl)).setCell ⟨b, off + k * 3 + 2, none⟩ (.string e.data)) b off n (putZ f k e) := by
  have h1 := h.cell Ev.cl_len hk 0 (by decide) (.int .i64 e.kind) ⟨e.kind, (f k).pl, (f k).data⟩ (by rfl)
  have h2 := h1.cell Ev.cl_len hk 1 (by decide) (.int .i64 e.pl) ⟨e.kind, e.pl, (f k).data⟩ (by simp only [putZ_same]; rfl)
  rw [putZ_twice] at h2
  have h3 := h2.cell Ev.cl_len hk 2 (by decide) (.string e.data) ⟨e.kind, e.pl, e.data⟩ (by simp only [putZ_same]; rfl)
  rw [putZ_twice] at h3
  exact h3
theorem Wr.setEv {lo hi b o : Nat} {w wr : World} (h : Wr lo hi w wr) (h1 : lo ≤ b) (h2 : b < hi) (u : Value) : Wr lo hi w (wr.setCell ⟨b, o, none⟩ u) :=
  h.trans ⟨rfl, rfl, rfl, by simp, fun k hk hn => Below.heap_setCell _ _ _ k (fun e => by simp at e; omega)⟩
theorem mkEv_at (K : Nat) : mkEv K = ⟨(K : Int), (K : Int) + 1, markT (K + 2)⟩ := by
  unfold mkEv
  have e0 : ((K + 0 : Nat) : Int) = (K : Int) := by omega
  have e1 : ((K + 1 : Nat) : Int) = (K : Int) + 1 := by omega
  rw [e0, e1]
set_option maxHeartbeats 4000000 in
theorem markEventS_ (lo hi : Nat) (v : Value) (m : List Ev) (k0 : Nat) (w : World) (hk : k0 ≤ 1073741824) (hl : cntEventS m ≤ 1073741824) (h : Sits (OwEventS lo hi v m) lo hi w) :
    Calls Tryd.prog 32 #[v, .int .i64 (k0 : Int)] w fun e w' => e = .returned (.int .i64 ((k0 + cntEventS m : Nat) : Int)) ∧ Sits (OwEventS lo hi v (mkEventS k0 m)) lo hi w' ∧ Wr lo hi w w' := by
  have hfit := h.fit
  obtain ⟨hown, hlt⟩ := h.now
  obtain ⟨a, cap, rfl, -⟩ := formEventS (OwnRw.rw hown)
  have hlen : m.length ≤ 1073741824 := by unfold cntEventS at hl; omega
  have hcn : Hid (k0 + cntEventS m = k0 + 3 * m.length) := rfl
  have hcap : m.length ≤ cap ∧ cap ≤ 9223372036854775807 := by obtain ⟨-, a', c', e, hc, -⟩ := hown; cases e; exact hc
  by_cases hm : m.length = 0
  · obtain rfl : m = [] := List.length_eq_zero_iff.1 hm
    have S : Hid (Sits (OwEventS lo hi (.slice a ([] : List Ev).length cap) (mkEventS k0 [])) lo hi w) := h
    clear h hown hlt hm
    simp only [List.length_nil] at *
    go_enter Tryd.func32, Tryd.ntmps32
    go_wp2
    go_loopw [5, 1] (fun x y wr => x = .int .i64 0 ∧ y = .int .i64 (k0 : Int) ∧ wr = w) (fun _ _ _ => 0)
    case atStart => exact ⟨rfl, rfl, rfl⟩
    case round =>
      obtain ⟨rfl, rfl, rfl⟩ := hrel
      go_wp2
      go_ret
      exact ⟨by simp [cntEventS], dUnhide S, Wr.refl _ _ _⟩
  · obtain ⟨b, off, rfl, hb1, hz0⟩ := hown.rwZ zeroEv (by omega)
    have hb2 : b < hi := by
      rcases hlt with h | h
      · exact absurd (by rw [h]; rfl) hm
      · exact h
    have FIN : Hid (∀ (W : World) (f : Nat → Ev), RwZ 3 Ev.cl W b off m.length f → (∀ i, i < m.length → f i = mkEv (k0 + 3 * i)) → hi ≤ W.heap.size → Sits (OwEventS lo hi (.slice (some ⟨b, off, none⟩) m.length cap) (mkEventS k0 m)) lo hi W) := fun W f hf he hW => by
      have o := hf.own (es := mkEventS k0 m) (cap := cap) (base := lo) (mkEventS_len k0 m).symm (fun i hi => by rw [mkEventS_at]; exact he i (by rw [mkEventS_len] at hi; exact hi)) hb1 (by rw [mkEventS_len]; omega) (by rw [mkEventS_len]; exact hcap)
      rw [mkEventS_len] at o
      exact OwG.sits ⟨o, .inr hb2⟩ hW
    have HZ0 := dHide hz0
    clear h hown hlt hz0 hm
    go_enter Tryd.func32, Tryd.ntmps32
    go_wp2
    go_loopw [5, 1] (fun x y wr => ∃ (k K : Nat) (f : Nat → Ev), x = .int .i64 (k : Int) ∧ y = .int .i64 (K : Int) ∧ k ≤ m.length ∧ Hid (K = k0 + 3 * k) ∧ Hid (RwZ 3 Ev.cl wr b off m.length f ∧ ∀ i, i < k → f i = mkEv (k0 + 3 * i)) ∧ Hid (Wr lo hi w wr) ∧ hi ≤ wr.heap.size) (fun x _ _ => m.length - (intOf x).toNat)
    case atStart => exact ⟨0, k0, _, rfl, rfl, Nat.zero_le _, rfl, ⟨dUnhide HZ0, fun i h => by omega⟩, Wr.refl _ _ _, hfit⟩
    case round =>
      obtain ⟨k, K, f, rfl, rfl, hkk, hK, hz, hw, hhi⟩ := hrel
      by_cases hlt : (k : Int) < (m.length : Int)
      · have hkl : k < m.length := by omega
        have hKb : K ≤ 8589934592 := by have := dUnhide hK; unfold cntEventS at hl; omega
        have hKb2 : K ≤ 2147483648 := by have := dUnhide hK; unfold cntEventS at hl; omega
        obtain ⟨z0, f0⟩ := (dUnhide hz).1 k hkl 0 _ rfl
        obtain ⟨z1, f1⟩ := (dUnhide hz).1 k hkl 1 _ rfl
        obtain ⟨z2, f2⟩ := (dUnhide hz).1 k hkl 2 _ rfl
        simp only [Nat.add_zero] at z0 f0
        have CT := dHide fun W => markText_any (K + 2) (by omega) (by omega) W
        have e3 : ((K + 2 : Nat) : Int) = (K : Int) + 1 + 1 := by omega
        rw [e3] at CT
        have Z0x := (dUnhide hz).1.cell Ev.cl_len hkl 0 (by decide) (.int .i64 ((K : Int))) ⟨(K : Int), (f k).pl, (f k).data⟩ (by rfl)
        have Z1x := Z0x.cell Ev.cl_len hkl 1 (by decide) (.int .i64 ((K : Int) + 1)) ⟨(K : Int), (K : Int) + 1, (f k).data⟩ (by simp only [putZ_same]; rfl)
        rw [putZ_twice] at Z1x
        have HZ3 := dHide Z1x
        have HW3 := dHide (((dUnhide hw).setEv (o := off + k * 3) hb1 hb2 (.int .i64 ((K : Int)))).setEv (o := off + k * 3 + 1) hb1 hb2 (.int .i64 ((K : Int) + 1)))
        have s3 : hi ≤ ((wr.setCell ⟨b, off + k * 3, none⟩ (.int .i64 ((K : Int)))).setCell ⟨b, off + k * 3 + 1, none⟩ (.int .i64 ((K : Int) + 1))).heap.size := by simpa using hhi
        have HF : Hid (∀ i, i < k → f i = mkEv (k0 + 3 * i)) := (dUnhide hz).2
        simp only [Nat.add_zero] at HZ3
        clear e3 Z0x Z1x hz hw
        go_wp2_with fail
        generalize ((wr.setCell ⟨b, off + k * 3, none⟩ (.int .i64 ((K : Int)))).setCell ⟨b, off + k * 3 + 1, none⟩ (.int .i64 ((K : Int) + 1))) = V at *
        refine (dUnhide CT _).mono ?_
        rintro r w2 ⟨rfl, b2⟩
        have Z4 := (dUnhide HZ3).below b2
        obtain ⟨z2', f2'⟩ := Z4 k hkl 2 _ rfl
        have Z5 := Z4.cell Ev.cl_len hkl 2 (by decide) (.string (markT (K + 2))) ⟨(K : Int), (K : Int) + 1, markT (K + 2)⟩ (by simp only [putZ_same]; rfl)
        rw [putZ_twice] at Z5
        have W5 := dHide (((dUnhide HW3).trans (Wr.of_below b2)).setEv (o := off + k * 3 + 2) hb1 hb2 (.string (markT (K + 2))))
        have s5 : hi ≤ w2.heap.size := Nat.le_trans s3 b2.size
        have HZ5 : Hid (RwZ 3 Ev.cl (w2.setCell ⟨b, off + k * 3 + 2, none⟩ (.string (markT (K + 2)))) b off m.length (putZ f k (mkEv (k0 + 3 * k)))) := by
          rw [← dUnhide hK, mkEv_at]
          exact Z5
        have HF2 : Hid (∀ i, i < k + 1 → putZ f k (mkEv (k0 + 3 * k)) i = mkEv (k0 + 3 * i)) := fun i h => by
          unfold putZ
          split
          · rename_i e; subst e; rfl
          · rename_i e; exact dUnhide HF i (by omega)
        have hK2 : Hid (K + 3 = k0 + 3 * (k + 1)) := by rw [Hid, dUnhide hK]; omega
        simp only [putZ_same] at z2'
        clear CT b2 Z4 Z5 HZ3 HW3 HF s3 z0 f0 z1 f1 z2 f2 hK hhi
        generalize markT (K + 2) = MT at *
        go_wp2
        go_roundw
        case rel => exact ⟨k + 1, K + 3, _, by go_num, by go_num, by omega, hK2, ⟨dUnhide HZ5, dUnhide HF2⟩, W5, by simpa using s5⟩
        case measure => simp [intOf]; omega
      · have e1 : k = m.length := by omega
        have e2 : Hid ((K : Int) = ((k0 + cntEventS m : Nat) : Int)) := by rw [Hid, dUnhide hK, dUnhide hcn, e1]
        have O := dHide (dUnhide FIN wr f (dUnhide hz).1 (fun i hi => (dUnhide hz).2 i (by omega)) hhi)
        clear hz hK FIN HZ0 hcn
        go_wp2
        go_ret
        exact ⟨by have e := dUnhide e2; simp only [Int.natCast_add] at e; simp [e], dUnhide O, dUnhide hw⟩
set_option maxHeartbeats 4000000 in
theorem heldEventS_ (v : Value) (m : List Ev) (k0 : Nat) (w : World) (hk : k0 ≤ 1073741824) (hl : cntEventS m ≤ 1073741824) (h : RdEventS v (mkEventS k0 m) w) :
    Calls Tryd.prog 33 #[v, .int .i64 (k0 : Int)] w fun e w' => e = .returned (.int .i64 ((k0 + cntEventS m : Nat) : Int)) ∧ Below w.heap.size w w' := by
  have HV := dHide fun W (hb : Below w.heap.size w W) => RdEventS.below h hb
  obtain ⟨a, cap, rfl, -⟩ := formEventS h
  have hlen : m.length ≤ 1073741824 := by unfold cntEventS at hl; omega
  have hcn : Hid (k0 + cntEventS m = k0 + 3 * m.length) := rfl
  have HLN := dHide (mkEventS_len k0 m)
  rw [mkEventS_len] at HV
  rw [mkEventS_len]
  clear h
  go_enter Tryd.func33, Tryd.ntmps33
  go_wp2
  go_loopw [5, 1] (fun x y wr => ∃ k K : Nat, x = .int .i64 (k : Int) ∧ y = .int .i64 (K : Int) ∧ k ≤ m.length ∧ Hid (K = k0 + 3 * k) ∧ Below w.heap.size w wr) (fun x _ _ => m.length - (intOf x).toNat)
  case atStart => exact ⟨0, k0, rfl, rfl, Nat.zero_le _, rfl, Below.refl _ _⟩
  case round =>
    obtain ⟨k, K, rfl, rfl, hkk, hK, hb⟩ := hrel
    by_cases hlt : (k : Int) < (m.length : Int)
    · have hkl : k < (mkEventS k0 m).length := by rw [dUnhide HLN]; omega
      have hKb : K ≤ 2147483648 := by have := dUnhide hK; unfold cntEventS at hl; omega
      obtain ⟨b, off, rfl, hc⟩ := Rw.atEv (dUnhide HV wr hb) hkl
      have E1 := hc k hkl
      rw [mkEventS_at, ← dUnhide hK, mkEv_at] at E1
      have HE := dHide E1
      obtain ⟨c0, c1, c2⟩ := E1
      simp only at c0 c1 c2
      have CT := dHide fun W => markText_any (K + 2) (by omega) (by omega) W
      have e3 : ((K + 2 : Nat) : Int) = (K : Int) + 1 + 1 := by omega
      rw [e3] at CT
      have HC3 : Hid (∀ W, Below wr.heap.size wr W → W.cell? ⟨b, off + k * 3 + 2, none⟩ = some (.string (markT (K + 2)))) := fun W hB => ((dUnhide HE).below hB).2.2
      have hK2 : Hid (K + 3 = k0 + 3 * (k + 1)) := by rw [Hid, dUnhide hK]; omega
      generalize markT (K + 2) = MT at *
      have hbr : Below wr.heap.size wr wr.drew := (Below.refl _ _).drew
      clear hc e3 HE HV hK hkl
      go_wp2_with fail
      go_region_held3 (fun W => W.cell? ⟨b, off + k * 3 + 2, none⟩ = some (.string MT)) (first | exact dUnhide HC3 _ hb5 | go_keep)
        (first
          | (go_at_call 52; refine (dUnhide CT _).mono ?_; rintro r w5 ⟨rfl, b5⟩; have hb5 := belowThen hbr b5; have q3 := dUnhide HC3 _ hb5))
      all_goals
        go_wp2
        go_roundw
        case rel => exact ⟨k + 1, K + 3, by go_num, by go_num, by omega, hK2, belowThen hb hb5⟩
        case measure => simp [intOf]; omega
    · have e1 : k = m.length := by omega
      have e2 : Hid ((K : Int) = ((k0 + cntEventS m : Nat) : Int)) := by rw [Hid, dUnhide hK, dUnhide hcn, e1]
      clear hK HV hcn
      go_wp2
      go_ret
      exact ⟨by have e := dUnhide e2; simp only [Int.natCast_add] at e; simp [e], hb⟩
end Go.Proofs.YtioocibgfhgkhaaDoor
