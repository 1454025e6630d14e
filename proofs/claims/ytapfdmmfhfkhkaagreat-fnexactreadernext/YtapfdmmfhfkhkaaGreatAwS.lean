/- Answers: their rows, and the laws' helpers on them (printed by tools/mkev.py). -/
import Derived.Test.YtapfdmmfhfkhkaaGreatEvP
import Derived.Test.YtapfdmmfhfkhkaaGreatGaA
import Derived.Test.YtapfdmmfhfkhkaaGreatGaT
import Derived.Test.YtapfdmmfhfkhkaaGreatGbE
import Derived.Test.YtapfdmmfhfkhkaaGreatStepP
import Derived.Deep.RegionHeld3
namespace Go.Proofs.YtapfdmmfhfkhkaaGreat
open Go.ChangeShapes Go.WideShapes Go.ChangeAt Go.RowKit
set_option linter.unusedVariables false
set_option linter.unusedSimpArgs false
set_option maxRecDepth 100000

/-- One of them. -/
structure Aw where
  node : Int
  has : Bool
  ent : Ent
def Aw.cl (e : Aw) : List Value := [.int .i64 e.node, .bool e.has, .int .i64 e.ent.pl, .int .i64 e.ent.wave, .bool e.ent.hole, .string e.ent.data]
def Aw.val (e : Aw) : Value := .agg #[.int .i64 e.node, .bool e.has, .int .i64 e.ent.pl, .int .i64 e.ent.wave, .bool e.ent.hole, .string e.ent.data]
theorem Aw.cl_len (e : Aw) : e.cl.length = 6 := rfl
def zeroAw : Aw := ⟨0, false, ⟨0, 0, false, ⟨#[]⟩⟩⟩
theorem elemAnswer : Elem (α := Aw) 68 57 (.agg #[.int .i64 0, .bool false, .int .i64 0, .int .i64 0, .bool false, .string ⟨#[]⟩]) 6 56 Aw.cl where
  under := Tryz.underlying57
  info := by kernel_rfl
  zcells := by kernel_rfl
  pos := by decide
  len := fun _ => rfl
  one := fun a u hu => by
    simp only [Aw.cl, List.mem_cons, List.not_mem_nil, or_false] at hu
    rcases hu with rfl | rfl | rfl | rfl | rfl | rfl <;> rfl
/-- The cells of one of a slice. -/
def AwAt (w : World) (b o : Nat) (e : Aw) : Prop := w.cell? ⟨b, o, none⟩ = some (.int .i64 e.node) ∧ w.cell? ⟨b, o + 1, none⟩ = some (.bool e.has) ∧ w.cell? ⟨b, o + 2, none⟩ = some (.int .i64 e.ent.pl) ∧ w.cell? ⟨b, o + 3, none⟩ = some (.int .i64 e.ent.wave) ∧ w.cell? ⟨b, o + 4, none⟩ = some (.bool e.ent.hole) ∧ w.cell? ⟨b, o + 5, none⟩ = some (.string e.ent.data)
theorem AwAt.below {w w' : World} {b o : Nat} {e : Aw} (h : AwAt w b o e) (hb : Below w.heap.size w w') : AwAt w' b o e := by
  obtain ⟨h0, h1, h2, h3, h4, h5⟩ := h
  exact ⟨(hb.cell (p := ⟨b, o, none⟩) (dCell_lt h0)).trans h0, (hb.cell (p := ⟨b, o + 1, none⟩) (dCell_lt h1)).trans h1, (hb.cell (p := ⟨b, o + 2, none⟩) (dCell_lt h2)).trans h2, (hb.cell (p := ⟨b, o + 3, none⟩) (dCell_lt h3)).trans h3, (hb.cell (p := ⟨b, o + 4, none⟩) (dCell_lt h4)).trans h4, (hb.cell (p := ⟨b, o + 5, none⟩) (dCell_lt h5)).trans h5⟩
theorem Rw.atAw {w : World} {a : Option Addr} {n cap : Nat} {es : List Aw} (h : Rw 6 Aw.cl w (.slice a n cap) es) {k : Nat} (hk : k < es.length) : ∃ b off, a = some ⟨b, off, none⟩ ∧ ∀ i (hi : i < es.length), AwAt w b (off + i * 6) es[i] := by
  obtain ⟨b, off, e, hc⟩ := h.elG hk
  exact ⟨b, off, e, fun i hi => ⟨hc i hi 0 _ rfl, hc i hi 1 _ rfl, hc i hi 2 _ rfl, hc i hi 3 _ rfl, hc i hi 4 _ rfl, hc i hi 5 _ rfl⟩⟩
theorem makeAnswer (n : Nat) (h : n ≤ 1073741824) (w : World) : (Instr.makeSlice 57 (.int .i64 (n : Int)) (.int .i64 (n : Int))).run Tryz.prog w = .ok (.slice (some ⟨w.heap.size, 0, none⟩) n n) (w.alloc (.cells (madeCells (Value.agg #[.int .i64 0, .bool false, .int .i64 0, .int .i64 0, .bool false, .string ⟨#[]⟩]).cells (n * 6)) 68)) := by
  obtain ⟨i0, hi, hz0, hz1, hz2⟩ := info_parts (elemAnswer).info
  have := run_make (P := Tryz.prog) w 57 68 i0 _ Tryz.underlying57 hi hz0 .i64 .i64 (n : Int) (n : Int) (by omega) (by omega) (by rw [hz2]; omega) (by omega)
  rw [hz1] at this
  simpa using this
theorem madeAnswer (w : World) (n : Nat) : RwZ 6 Aw.cl (w.alloc (.cells (madeCells (Value.agg #[.int .i64 0, .bool false, .int .i64 0, .int .i64 0, .bool false, .string ⟨#[]⟩]).cells (n * 6)) 68)) w.heap.size 0 n (fun _ => zeroAw) := RwZ.made _ zeroAw rfl Aw.cl_len w n
set_option maxHeartbeats 4000000 in
theorem toAnswer_any (e : Aw) (w : World) :
    Calls Tryz.prog 119 #[e.val] w fun r w' => r = .returned e.val ∧ Below w.heap.size w w' := by
  have ba : ∀ (w : World) o, Below w.heap.size w (w.alloc o) := fun w o => (Below.refl _ _).alloc (Nat.le_refl _) o
  obtain ⟨y0, y1, y2, y3, y4, y5⟩ := e
  have CE := dHide fun W => toEntry_any ⟨y2, y3, y4, y5⟩ W
  unfold Aw.val
  unfold Ent.val at CE
  simp only at *
  have Y0 := (BxZ.new (B := w.heap.size) (w.alloc (.cells #[.int .i64 y0, .bool y1, .int .i64 y2, .int .i64 y3, .bool y4, .string y5] 160)) [.int .i64 0, .bool false, .int .i64 0, .int .i64 0, .bool false, .string ⟨#[]⟩] 68 (by simp)).below (ba _ (.cells #[.int .i64 y0, .bool y1, .int .i64 0, .int .i64 0, .bool false, .string ⟨#[]⟩] 68))
  have Z0 := BxZ.new (B := w.heap.size) ((w.alloc (.cells #[.int .i64 y0, .bool y1, .int .i64 y2, .int .i64 y3, .bool y4, .string y5] 160)).alloc (.cells #[.int .i64 0, .bool false, .int .i64 0, .int .i64 0, .bool false, .string ⟨#[]⟩] 68)) [.int .i64 y0, .bool y1, .int .i64 0, .int .i64 0, .bool false, .string ⟨#[]⟩] 68 (by simp <;> omega)
  have B0 := belowThen (belowThen (ba w (.cells #[.int .i64 y0, .bool y1, .int .i64 y2, .int .i64 y3, .bool y4, .string y5] 160)) (ba _ (.cells #[.int .i64 0, .bool false, .int .i64 0, .int .i64 0, .bool false, .string ⟨#[]⟩] 68))) (ba _ (.cells #[.int .i64 y0, .bool y1, .int .i64 0, .int .i64 0, .bool false, .string ⟨#[]⟩] 68))
  have e1 : (w.alloc (.cells #[.int .i64 y0, .bool y1, .int .i64 y2, .int .i64 y3, .bool y4, .string y5] 160)).heap.size = w.heap.size + 1 := by simp
  have e2 : ((w.alloc (.cells #[.int .i64 y0, .bool y1, .int .i64 y2, .int .i64 y3, .bool y4, .string y5] 160)).alloc (.cells #[.int .i64 0, .bool false, .int .i64 0, .int .i64 0, .bool false, .string ⟨#[]⟩] 68)).heap.size = w.heap.size + 1 + 1 := by simp
  rw [e1] at Y0
  rw [e2] at Z0
  clear e1 e2
  go_enter Tryz.func119, Tryz.ntmps119
  go_wp2_with fail
  generalize ((w.alloc (.cells #[.int .i64 y0, .bool y1, .int .i64 y2, .int .i64 y3, .bool y4, .string y5] 160)).alloc (.cells #[.int .i64 0, .bool false, .int .i64 0, .int .i64 0, .bool false, .string ⟨#[]⟩] 68)).alloc (.cells #[.int .i64 y0, .bool y1, .int .i64 0, .int .i64 0, .bool false, .string ⟨#[]⟩] 68) = w0 at *
  refine (dUnhide CE _).mono ?_
  rintro e w1 ⟨rfl, b1⟩
  have B1 := belowThen B0 b1
  have Y1 := Y0.below b1
  have Z1 := Z0.below b1
  obtain ⟨z0, f0⟩ := Z1.2 0 _ rfl
  obtain ⟨x0, p0⟩ := Y1.2 0 _ rfl
  obtain ⟨z1, f1⟩ := Z1.2 1 _ rfl
  obtain ⟨x1, p1⟩ := Y1.2 1 _ rfl
  obtain ⟨z2, f2⟩ := Z1.2 2 _ rfl
  obtain ⟨x2, p2⟩ := Y1.2 2 _ rfl
  obtain ⟨z3, f3⟩ := Z1.2 3 _ rfl
  obtain ⟨x3, p3⟩ := Y1.2 3 _ rfl
  obtain ⟨z4, f4⟩ := Z1.2 4 _ rfl
  obtain ⟨x4, p4⟩ := Y1.2 4 _ rfl
  obtain ⟨z5, f5⟩ := Z1.2 5 _ rfl
  obtain ⟨x5, p5⟩ := Y1.2 5 _ rfl
  have YY := dHide ((((((((((Y1.far (b' := w.heap.size + 1 + 1) (o := 2) (by omega) (.int .i64 y2)).far (b' := w.heap.size + 1 + 1) (o := 3) (by omega) (.int .i64 y3)).far (b' := w.heap.size + 1 + 1) (o := 4) (by omega) (.bool y4)).far (b' := w.heap.size + 1 + 1) (o := 5) (by omega) (.string y5)).put 0 (.int .i64 y0)).put 1 (.bool y1)).put 2 (.int .i64 y2)).put 3 (.int .i64 y3)).put 4 (.bool y4)).put 5 (.string y5))
  have BB := dHide ((((((((((B1.setCell (p := ⟨w.heap.size + 1 + 1, 2, none⟩) (by simp only; omega) (.int .i64 y2)).setCell (p := ⟨w.heap.size + 1 + 1, 3, none⟩) (by simp only; omega) (.int .i64 y3)).setCell (p := ⟨w.heap.size + 1 + 1, 4, none⟩) (by simp only; omega) (.bool y4)).setCell (p := ⟨w.heap.size + 1 + 1, 5, none⟩) (by simp only; omega) (.string y5)).setCell (p := ⟨w.heap.size + 1, 0, none⟩) (by simp only; omega) (.int .i64 y0)).setCell (p := ⟨w.heap.size + 1, 1, none⟩) (by simp only; omega) (.bool y1)).setCell (p := ⟨w.heap.size + 1, 2, none⟩) (by simp only; omega) (.int .i64 y2)).setCell (p := ⟨w.heap.size + 1, 3, none⟩) (by simp only; omega) (.int .i64 y3)).setCell (p := ⟨w.heap.size + 1, 4, none⟩) (by simp only; omega) (.bool y4)).setCell (p := ⟨w.heap.size + 1, 5, none⟩) (by simp only; omega) (.string y5))
  clear Y0 Z0 B0 CE b1 Y1 Z1 B1
  go_wp2_with fail
  generalize ((((((((((w1.setCell ⟨w.heap.size + 1 + 1, 2, none⟩ (.int .i64 y2)).setCell ⟨w.heap.size + 1 + 1, 3, none⟩ (.int .i64 y3)).setCell ⟨w.heap.size + 1 + 1, 4, none⟩ (.bool y4)).setCell ⟨w.heap.size + 1 + 1, 5, none⟩ (.string y5)).setCell ⟨w.heap.size + 1, 0, none⟩ (.int .i64 y0)).setCell ⟨w.heap.size + 1, 1, none⟩ (.bool y1)).setCell ⟨w.heap.size + 1, 2, none⟩ (.int .i64 y2)).setCell ⟨w.heap.size + 1, 3, none⟩ (.int .i64 y3)).setCell ⟨w.heap.size + 1, 4, none⟩ (.bool y4)).setCell ⟨w.heap.size + 1, 5, none⟩ (.string y5)) = V at *
  have q0 := ((dUnhide YY).2 0 _ rfl).1
  have q1 := ((dUnhide YY).2 1 _ rfl).1
  have q2 := ((dUnhide YY).2 2 _ rfl).1
  have q3 := ((dUnhide YY).2 3 _ rfl).1
  have q4 := ((dUnhide YY).2 4 _ rfl).1
  have q5 := ((dUnhide YY).2 5 _ rfl).1
  clear z0 f0 x0 p0 z1 f1 x1 p1 z2 f2 x2 p2 z3 f3 x3 p3 z4 f4 x4 p4 z5 f5 x5 p5
  refine bodyPost_ret (v := .agg #[.int .i64 y0, .bool y1, .int .i64 y2, .int .i64 y3, .bool y4, .string y5]) (by simp [results, Tryz.results119, go_sem, q0, q1, q2, q3, q4, q5]) rfl ⟨rfl, dUnhide BB⟩
theorem szAnswer_any (e : Aw) (left : Int) (l0 : 0 ≤ left) (l1 : left ≤ 1048576) (hs : e.ent.data.size ≤ 9223372036854775807) (w : World) :
    Calls Tryz.prog 115 #[e.val, .int .i64 left] w fun r w' => r = .returned (.int .i64 (if left < (e.ent.data.size : Int) then -1 else left - (e.ent.data.size : Int))) ∧ Below w.heap.size w w' := by
  have ba : ∀ (w : World) o, Below w.heap.size w (w.alloc o) := fun w o => (Below.refl _ _).alloc (Nat.le_refl _) o
  obtain ⟨y0, y1, y2, y3, y4, y5⟩ := e
  have CE := dHide fun W => szEntry_any ⟨y2, y3, y4, y5⟩ left l0 l1 hs W
  unfold Aw.val
  unfold Ent.val at CE
  simp only at *
  by_cases hd : left < (y5.size : Int)
  · rw [if_pos hd] at CE ⊢
    go_enter Tryz.func115, Tryz.ntmps115
    go_wp2_with fail
    refine (dUnhide CE _).mono ?_
    rintro e w1 ⟨rfl, b1⟩
    have B := belowThen (ba _ _) b1
    clear CE b1
    go_wp2
    go_ret
    exact ⟨rfl, B⟩
  · rw [if_neg hd] at CE ⊢
    have hd' : ¬ (left - (y5.size : Int) < 0) := by omega
    go_enter Tryz.func115, Tryz.ntmps115
    go_wp2_with fail
    refine (dUnhide CE _).mono ?_
    rintro e w1 ⟨rfl, b1⟩
    have B := belowThen (ba _ _) b1
    clear CE b1
    go_wp2
    go_ret
    exact ⟨rfl, B⟩
theorem eqAnswer_same (e : Aw) (w : World) :
    Calls Tryz.prog 123 #[e.val, e.val] w fun r w' => r = .returned (.bool true) ∧ Below w.heap.size w w' := by
  have ba : ∀ (w : World) o, Below w.heap.size w (w.alloc o) := fun w o => (Below.refl _ _).alloc (Nat.le_refl _) o
  obtain ⟨y0, y1, y2, y3, y4, y5⟩ := e
  have CE := dHide fun W => eqEntry_same ⟨y2, y3, y4, y5⟩ W
  unfold Aw.val
  unfold Ent.val at CE
  simp only at *
  cases y1
  all_goals
    go_enter Tryz.func123, Tryz.ntmps123
    go_wp2_with fail
    refine (dUnhide CE _).mono ?_
    rintro e w1 ⟨rfl, b1⟩
    have B := belowThen (belowThen (ba _ _) (ba _ _)) b1
    clear CE b1
    go_wp2
    go_ret
    exact ⟨rfl, B⟩
/-- The bytes of the texts. -/
def sumAw (es : List Aw) : Nat := (es.map fun e => e.ent.data.size).sum
theorem sumAw_take (es : List Aw) (k : Nat) (h : k < es.length) : sumAw (es.take (k + 1)) = sumAw (es.take k) + es[k].ent.data.size := by
  unfold sumAw
  rw [List.take_succ_eq_append_getElem h, List.map_append, List.sum_append, List.map_cons, List.map_nil, List.sum_cons, List.sum_nil, Nat.add_zero]
theorem sumAw_le (es : List Aw) (k : Nat) : sumAw (es.take k) ≤ sumAw es := by
  unfold sumAw
  conv => rhs; rw [← List.take_append_drop k es, List.map_append, List.sum_append]
  exact Nat.le_add_right _ _
/-- Texts that are no longer than an int. -/
def txtAw (es : List Aw) : Prop := ∀ e ∈ es, e.ent.data.size ≤ 9223372036854775807
def RdAnswerS (v : Value) (m : List Aw) (W : World) : Prop := Rw 6 Aw.cl W v m
def OwAnswerS (lo hi : Nat) (v : Value) (m : List Aw) (W : World) : Prop := OwG 6 Aw.cl lo hi v m W
def sizAnswerS (m : List Aw) : Nat := m.length + sumAw m
def cntAnswerS (m : List Aw) : Nat := 6 * m.length
def mkAw (k : Nat) : Aw := ⟨((k + 0 : Nat) : Int), ((k + 1) % 3 == 0), ⟨((k + 2 : Nat) : Int), ((k + 3 : Nat) : Int), ((k + 4) % 3 == 0), markT (k + 5)⟩⟩
def mkAnswerS (k : Nat) (m : List Aw) : List Aw := (List.range m.length).map fun i => mkAw (k + 6 * i)
theorem mkAnswerS_len (k : Nat) (m : List Aw) : (mkAnswerS k m).length = m.length := by simp [mkAnswerS]
theorem mkAnswerS_at (k : Nat) (m : List Aw) (i : Nat) (h : i < (mkAnswerS k m).length) : (mkAnswerS k m)[i] = mkAw (k + 6 * i) := by simp [mkAnswerS]
theorem OwAnswerS.rd {lo hi : Nat} {v : Value} {m : List Aw} {W : World} (h : OwAnswerS lo hi v m W) : RdAnswerS v m W := OwnRw.rw h.1
theorem RdAnswerS.below {v : Value} {m : List Aw} {W W' : World} (h : RdAnswerS v m W) (b : Below W.heap.size W W') : RdAnswerS v m W' := Rw.below h b
theorem formAnswerS {v : Value} {m : List Aw} {W : World} (h : RdAnswerS v m W) : ∃ a cap, v = .slice a m.length cap ∧ m.length ≤ 9223372036854775807 := by
  obtain ⟨h0, a, cap, rfl, -, -⟩ := h
  exact ⟨a, cap, rfl, h0⟩
theorem sitsAnswerS {w : World} {base : Nat} {v : Value} {m : List Aw} (h : OwnRw 6 Aw.cl w base v m) : Sits (OwAnswerS base w.heap.size v m) base w.heap.size w := OwG.sits ⟨h, h.ltZ Aw.cl_len (by decide)⟩ (Nat.le_refl _)
theorem cntAnswerS_le {m : List Aw} (h : sizAnswerS m ≤ 1048576) : cntAnswerS m ≤ 6291456 := by unfold sizAnswerS at h; unfold cntAnswerS; omega
set_option maxHeartbeats 2000000 in
theorem szAnswerS_ (v : Value) (es : List Aw) (left : Int) (l0 : 0 ≤ left) (l1 : left ≤ 1048576) (hf : txtAw es) (w : World) (hv : RdAnswerS v es w) :
    Calls Tryz.prog 39 #[v, .int .i64 left] w fun r w' => r = .returned (.int .i64 (lft left (sizAnswerS es))) ∧ Below w.heap.size w w' := by
  have HV := dHide fun W (hb : Below w.heap.size w W) => Rw.below hv hb
  have HF := dHide hf
  obtain ⟨h0, a, cap, rfl, -, -⟩ := hv
  unfold sizAnswerS
  clear hf
  by_cases hl : left < (es.length : Int)
  · have e1 : lft left (es.length + sumAw es) = -1 := lft_no (by omega)
    rw [e1]
    have hd : left - (es.length : Int) < 0 := by omega
    clear HV HF e1
    go_enter Tryz.func39, Tryz.ntmps39
    go_wp2
    go_ret
    exact ⟨rfl, Below.refl _ _⟩
  · have hd : ¬ left - (es.length : Int) < 0 := by omega
    have LN : Hid (left < ((es.length + sumAw es : Nat) : Int) → lft left (es.length + sumAw es) = -1) := lft_no
    have LY : Hid (¬ left < ((es.length + sumAw es : Nat) : Int) → lft left (es.length + sumAw es) = left - ((es.length + sumAw es : Nat) : Int)) := lft_yes
    generalize lft left (es.length + sumAw es) = M at *
    go_enter Tryz.func39, Tryz.ntmps39
    go_wp2
    go_loopw [5, 1] (fun x y wr => ∃ (k : Nat) (q : Int), x = .int .i64 (k : Int) ∧ y = .int .i64 q ∧ k ≤ es.length ∧ 0 ≤ q ∧ q ≤ 1048576 ∧ Hid (q = left - (es.length : Int) - (sumAw (es.take k) : Int)) ∧ Below w.heap.size w wr) (fun x _ _ => es.length - (intOf x).toNat)
    case atStart => exact ⟨0, _, rfl, rfl, Nat.zero_le _, by omega, by omega, by simp [Hid, sumAw], Below.refl _ _⟩
    case round =>
      obtain ⟨k, q, rfl, rfl, hk, q0, q1, hq, hb⟩ := hrel
      by_cases hlt : (k : Int) < (es.length : Int)
      · have hkl : k < es.length := by omega
        obtain ⟨b, off, rfl, hc⟩ := (dUnhide HV wr hb).atAw hkl
        have hs := sumAw_take es k hkl
        have hs2 := sumAw_le es (k + 1)
        have CE := dHide fun W => szAnswer_any es[k] q q0 q1 (dUnhide HF _ (List.getElem_mem hkl)) W
        obtain ⟨c0, c1, c2, c3, c4, c5⟩ := hc k hkl
        have hq' := dUnhide hq
        generalize es[k] = y at *
        obtain ⟨y0, y1, ⟨y2, y3, y4, y5⟩⟩ := y
        unfold Aw.val at CE
        simp only at *
        by_cases hn : q < (y5.size : Int)
        · rw [if_pos hn] at CE
          have e1 := dUnhide LN (by omega)
          subst e1
          clear hc HV HF hq' hq hs hs2 hn LN LY
          go_wp2_with fail
          refine (dUnhide CE _).mono ?_
          rintro r w2 ⟨rfl, b2⟩
          have hb2 := belowThen hb b2
          clear CE b2 c0 c1 c2 c3 c4 c5 hb
          go_wp2
          go_ret
          exact ⟨rfl, hb2⟩
        · rw [if_neg hn] at CE
          have e1 : Hid (q - (y5.size : Int) = left - (es.length : Int) - (sumAw (es.take (k + 1)) : Int)) := by rw [Hid, hs]; omega
          have q0' : 0 ≤ q - (y5.size : Int) := by omega
          have q1' : q - (y5.size : Int) ≤ 1048576 := by omega
          generalize q - (y5.size : Int) = q' at *
          have hd' : ¬ q' < 0 := by omega
          clear hc hq' hq hs hs2 hn
          go_wp2_with fail
          refine (dUnhide CE _).mono ?_
          rintro r w2 ⟨rfl, b2⟩
          have hb2 := belowThen hb b2
          clear CE b2 c0 c1 c2 c3 c4 c5 hb
          go_wp2
          go_roundw
          case rel => exact ⟨k + 1, q', by go_num, rfl, by omega, q0', q1', e1, hb2⟩
          case measure => simp [intOf]; omega
      · have e1 : es.take k = es := List.take_of_length_le (by omega)
        have hq' := dUnhide hq
        rw [e1] at hq'
        have e2 := dUnhide LY (by omega)
        have e3 : Hid (q = M) := by rw [Hid, e2, hq']; omega
        clear hq hq' e1 e2 LN LY HV HF
        go_wp2
        go_ret
        exact ⟨by rw [← dUnhide e3]; rfl, hb⟩
set_option maxHeartbeats 4000000 in
theorem eqAnswerS_ (u v : Value) (es : List Aw) (w : World) (hu : RdAnswerS u es w) (hv : RdAnswerS v es w) :
    Calls Tryz.prog 47 #[u, v] w fun r w' => r = .returned (.bool true) ∧ Below w.heap.size w w' := by
  have HU := dHide fun W (hb : Below w.heap.size w W) => Rw.below hu hb
  have HV := dHide fun W (hb : Below w.heap.size w W) => Rw.below hv hb
  obtain ⟨h0, a, cap, rfl, -, -⟩ := hu
  obtain ⟨h0', a', cap', rfl, -, -⟩ := hv
  go_enter Tryz.func47, Tryz.ntmps47
  go_wp2
  go_loopw [5] (fun i wr => ∃ k : Nat, i = .int .i64 (k : Int) ∧ k ≤ es.length ∧ Below w.heap.size w wr) (fun i _ => es.length - (intOf i).toNat)
  case atStart => exact ⟨0, rfl, Nat.zero_le _, Below.refl _ _⟩
  case round =>
    obtain ⟨k, rfl, hk, hb⟩ := hrel
    by_cases hlt : (k : Int) < (es.length : Int)
    · have hkl : k < es.length := by omega
      obtain ⟨b, off, rfl, hc⟩ := (dUnhide HU wr hb).atAw hkl
      obtain ⟨b', off', rfl, hc'⟩ := (dUnhide HV wr hb).atAw hkl
      have E1 := dHide (hc k hkl)
      have E2 := dHide (hc' k hkl)
      obtain ⟨c0, c1, c2, c3, c4, c5⟩ := hc k hkl
      obtain ⟨e0, e1, e2, e3, e4, e5⟩ := hc' k hkl
      have CE := dHide (eqAnswer_same es[k])
      generalize es[k] = y at *
      obtain ⟨y0, y1, ⟨y2, y3, y4, y5⟩⟩ := y
      unfold Aw.val at CE
      simp only at *
      clear hc hc' HU HV
      have hbr : Below wr.heap.size wr wr.drew := (Below.refl _ _).drew
      go_wp2_with fail
      go_region_held3 (fun W => (W.cell? ⟨b, off + k * 6, none⟩ = some (.int .i64 y0) ∧ W.cell? ⟨b, off + k * 6 + 1, none⟩ = some (.bool y1) ∧ W.cell? ⟨b, off + k * 6 + 2, none⟩ = some (.int .i64 y2) ∧ W.cell? ⟨b, off + k * 6 + 3, none⟩ = some (.int .i64 y3) ∧ W.cell? ⟨b, off + k * 6 + 4, none⟩ = some (.bool y4) ∧ W.cell? ⟨b, off + k * 6 + 5, none⟩ = some (.string y5)) ∧ W.cell? ⟨b', off' + k * 6, none⟩ = some (.int .i64 y0) ∧ W.cell? ⟨b', off' + k * 6 + 1, none⟩ = some (.bool y1) ∧ W.cell? ⟨b', off' + k * 6 + 2, none⟩ = some (.int .i64 y2) ∧ W.cell? ⟨b', off' + k * 6 + 3, none⟩ = some (.int .i64 y3) ∧ W.cell? ⟨b', off' + k * 6 + 4, none⟩ = some (.bool y4) ∧ W.cell? ⟨b', off' + k * 6 + 5, none⟩ = some (.string y5)) (first | exact ⟨(dUnhide E1).below hb5, (dUnhide E2).below hb5⟩ | go_keep)
        (first
          | (go_at_call 123; refine (dUnhide CE _).mono ?_; rintro r w5 ⟨rfl, b5⟩; have hb5 := belowThen hbr b5))
      all_goals
        go_wp2
        go_roundw
        case rel => exact ⟨k + 1, by go_num, by omega, belowThen hb hb5⟩
        case measure => simp [intOf]; omega
    · clear HU HV
      go_wp2
      go_ret
      exact ⟨rfl, hb⟩
theorem zallAw {w : World} {b off n k : Nat} {f : Nat → Aw} (h : RwZ 6 Aw.cl w b off n f) (hk : k < n) (e : Aw) :
    RwZ 6 Aw.cl ((((((w.setCell ⟨b, off + k * 6, none⟩ (.int .i64 e.node)).setCell ⟨b, off + k * 6 + 1, none⟩ (.bool e.has)).setCell ⟨b, off + k * 6 + 2, none⟩ (.int .i64 e.ent.pl)).setCell ⟨b, off + k * 6 + 3, none⟩ (.int .i64 e.ent.wave)).setCell ⟨b, off + k * 6 + 4, none⟩ (.bool e.ent.hole)).setCell ⟨b, off + k * 6 + 5, none⟩ (.string e.ent.data)) b off n (putZ f k e) := by
  have h1 := h.cell Aw.cl_len hk 0 (by decide) (.int .i64 e.node) ⟨e.node, (f k).has, ⟨(f k).ent.pl, (f k).ent.wave, (f k).ent.hole, (f k).ent.data⟩⟩ (by rfl)
  have h2 := h1.cell Aw.cl_len hk 1 (by decide) (.bool e.has) ⟨e.node, e.has, ⟨(f k).ent.pl, (f k).ent.wave, (f k).ent.hole, (f k).ent.data⟩⟩ (by simp only [putZ_same]; rfl)
  rw [putZ_twice] at h2
  have h3 := h2.cell Aw.cl_len hk 2 (by decide) (.int .i64 e.ent.pl) ⟨e.node, e.has, ⟨e.ent.pl, (f k).ent.wave, (f k).ent.hole, (f k).ent.data⟩⟩ (by simp only [putZ_same]; rfl)
  rw [putZ_twice] at h3
  have h4 := h3.cell Aw.cl_len hk 3 (by decide) (.int .i64 e.ent.wave) ⟨e.node, e.has, ⟨e.ent.pl, e.ent.wave, (f k).ent.hole, (f k).ent.data⟩⟩ (by simp only [putZ_same]; rfl)
  rw [putZ_twice] at h4
  have h5 := h4.cell Aw.cl_len hk 4 (by decide) (.bool e.ent.hole) ⟨e.node, e.has, ⟨e.ent.pl, e.ent.wave, e.ent.hole, (f k).ent.data⟩⟩ (by simp only [putZ_same]; rfl)
  rw [putZ_twice] at h5
  have h6 := h5.cell Aw.cl_len hk 5 (by decide) (.string e.ent.data) ⟨e.node, e.has, ⟨e.ent.pl, e.ent.wave, e.ent.hole, e.ent.data⟩⟩ (by simp only [putZ_same]; rfl)
  rw [putZ_twice] at h6
  exact h6
set_option maxHeartbeats 2000000 in
theorem toAnswerS_own (v : Value) (es : List Aw) (w : World) (hl : es.length ≤ 1048576) (hv : RdAnswerS v es w) :
    Calls Tryz.prog 43 #[v] w fun r w' => (∃ u, r = .returned u ∧ OwnRw 6 Aw.cl w' w.heap.size u es) ∧ Below w.heap.size w w' := by
  have HV := dHide fun W (hb : Below w.heap.size w W) => Rw.below hv hb
  obtain ⟨h0, a, cap, rfl, -, -⟩ := hv
  have hmk := makeAnswer es.length (by omega)
  have MZ := dHide (madeAnswer w es.length)
  generalize madeCells (Value.agg #[.int .i64 0, .bool false, .int .i64 0, .int .i64 0, .bool false, .string ⟨#[]⟩]).cells (es.length * 6) = ZC at *
  go_enter Tryz.func43, Tryz.ntmps43
  go_wp2
  go_loopw [4] (fun x wr => ∃ (k : Nat) (f : Nat → Aw), x = .int .i64 (k : Int) ∧ k ≤ es.length ∧ Hid (RwZ 6 Aw.cl wr w.heap.size 0 es.length f ∧ ∀ i (h : i < es.length), i < k → f i = es[i]) ∧ Below w.heap.size w wr) (fun x _ => es.length - (intOf x).toNat)
  case atStart => exact ⟨0, _, rfl, Nat.zero_le _, ⟨dUnhide MZ, fun i h h' => by omega⟩, (Below.refl _ _).alloc (Nat.le_refl _) _⟩
  case round =>
    obtain ⟨k, f, rfl, hk, hz, hb⟩ := hrel
    by_cases hlt : (k : Int) < (es.length : Int)
    · have hkl : k < es.length := by omega
      obtain ⟨b, off, rfl, hc⟩ := (dUnhide HV wr hb).atAw hkl
      obtain ⟨c0, c1, c2, c3, c4, c5⟩ := hc k hkl
      have CE := dHide fun W => toAnswer_any es[k] W
      have hst : Hid (∀ W, Below wr.heap.size wr W → RwZ 6 Aw.cl W w.heap.size 0 es.length f) := fun W hB => (dUnhide hz).1.below hB
      have hin : Hid (∀ i (h : i < es.length), i < k + 1 → putZ f k es[k] i = es[i]) := fun i h h' => by
        unfold putZ
        split
        · rename_i e; subst e; rfl
        · rename_i e; exact (dUnhide hz).2 i h (by omega)
      generalize es[k] = y at *
      obtain ⟨y0, y1, ⟨y2, y3, y4, y5⟩⟩ := y
      unfold Aw.val at CE
      simp only at *
      clear hc hz
      go_wp2_with fail
      refine (dUnhide CE _).mono ?_
      rintro r w2 ⟨rfl, b2⟩
      have Z2 := dUnhide hst w2 b2
      obtain ⟨z0, f0⟩ := Z2 k hkl 0 _ rfl
      obtain ⟨z1, f1⟩ := Z2 k hkl 1 _ rfl
      obtain ⟨z2, f2⟩ := Z2 k hkl 2 _ rfl
      obtain ⟨z3, f3⟩ := Z2 k hkl 3 _ rfl
      obtain ⟨z4, f4⟩ := Z2 k hkl 4 _ rfl
      obtain ⟨z5, f5⟩ := Z2 k hkl 5 _ rfl
      have Z3 := dHide (zallAw Z2 hkl ⟨y0, y1, ⟨y2, y3, y4, y5⟩⟩)
      simp only [Nat.zero_add, Nat.add_zero] at z0 z1 z2 z3 z4 z5 f0 f1 f2 f3 f4 f5 Z3
      have hb2 := belowThen hb b2
      have hb3 := dHide ((((((hb2.setCell (p := ⟨w.heap.size, k * 6, none⟩) (Nat.le_refl _) (.int .i64 y0)).setCell (p := ⟨w.heap.size, k * 6 + 1, none⟩) (Nat.le_refl _) (.bool y1)).setCell (p := ⟨w.heap.size, k * 6 + 2, none⟩) (Nat.le_refl _) (.int .i64 y2)).setCell (p := ⟨w.heap.size, k * 6 + 3, none⟩) (Nat.le_refl _) (.int .i64 y3)).setCell (p := ⟨w.heap.size, k * 6 + 4, none⟩) (Nat.le_refl _) (.bool y4)).setCell (p := ⟨w.heap.size, k * 6 + 5, none⟩) (Nat.le_refl _) (.string y5))
      clear CE b2 c0 c1 c2 c3 c4 c5 hb hst Z2 hb2
      go_wp2
      go_roundw
      case rel => exact ⟨k + 1, _, by go_num, by omega, ⟨dUnhide Z3, dUnhide hin⟩, dUnhide hb3⟩
      case measure => simp [intOf]; omega
    · have O : Hid (OwnRw 6 Aw.cl wr w.heap.size (.slice (some ⟨w.heap.size, 0, none⟩) es.length es.length) es) := (dUnhide hz).1.own rfl (fun i hi => (dUnhide hz).2 i hi (by omega)) (Nat.le_refl _) (by omega) (by omega)
      clear hz HV
      go_wp2
      go_ret
      exact ⟨⟨_, rfl, dUnhide O⟩, hb⟩
theorem toAnswerS_ (v : Value) (m : List Aw) (w : World) (hl : sizAnswerS m ≤ 1048576) (h : RdAnswerS v m w) :
    Calls Tryz.prog 43 #[v] w fun e w' => ∃ u, e = .returned u ∧ Sits (OwAnswerS w.heap.size w'.heap.size u m) w.heap.size w'.heap.size w' ∧ Below w.heap.size w w' :=
  (toAnswerS_own v m w (by unfold sizAnswerS at hl; omega) h).mono fun e w' ⟨⟨u, h1, h2⟩, h3⟩ => ⟨u, h1, sitsAnswerS h2, h3⟩
theorem Wr.setAw {lo hi b o : Nat} {w wr : World} (h : Wr lo hi w wr) (h1 : lo ≤ b) (h2 : b < hi) (u : Value) : Wr lo hi w (wr.setCell ⟨b, o, none⟩ u) :=
  h.trans ⟨rfl, rfl, rfl, by simp, fun k hk hn => Below.heap_setCell _ _ _ k (fun e => by simp at e; omega)⟩
theorem mkAw_at (K : Nat) : mkAw K = ⟨(K : Int), (((K : Int) + 1) % 3 == 0), ⟨(K : Int) + 1 + 1, (K : Int) + 1 + 1 + 1, (((K : Int) + 1 + 1 + 1 + 1) % 3 == 0), markT (K + 5)⟩⟩ := by
  unfold mkAw
  have e0 : ((K + 0 : Nat) : Int) = (K : Int) := by omega
  have e1 : ((K + 1) % 3 == 0) = (((K : Int) + 1) % 3 == 0) := by
    by_cases h : (K + 1) % 3 = 0
    · have h' : ((K : Int) + 1) % 3 = 0 := by omega
      rw [h, h']; rfl
    · have h' : ¬ ((K : Int) + 1) % 3 = 0 := by omega
      rw [beq_eq_false_iff_ne.2 h, beq_eq_false_iff_ne.2 h']
  have e2 : ((K + 2 : Nat) : Int) = (K : Int) + 1 + 1 := by omega
  have e3 : ((K + 3 : Nat) : Int) = (K : Int) + 1 + 1 + 1 := by omega
  have e4 : ((K + 4) % 3 == 0) = (((K : Int) + 1 + 1 + 1 + 1) % 3 == 0) := by
    by_cases h : (K + 4) % 3 = 0
    · have h' : ((K : Int) + 1 + 1 + 1 + 1) % 3 = 0 := by omega
      rw [h, h']; rfl
    · have h' : ¬ ((K : Int) + 1 + 1 + 1 + 1) % 3 = 0 := by omega
      rw [beq_eq_false_iff_ne.2 h, beq_eq_false_iff_ne.2 h']
  rw [e0, e1, e2, e3, e4]
set_option maxHeartbeats 4000000 in
theorem markAnswerS_ (lo hi : Nat) (v : Value) (m : List Aw) (k0 : Nat) (w : World) (hk : k0 ≤ 1073741824) (hl : cntAnswerS m ≤ 1073741824) (h : Sits (OwAnswerS lo hi v m) lo hi w) :
    Calls Tryz.prog 51 #[v, .int .i64 (k0 : Int)] w fun e w' => e = .returned (.int .i64 ((k0 + cntAnswerS m : Nat) : Int)) ∧ Sits (OwAnswerS lo hi v (mkAnswerS k0 m)) lo hi w' ∧ Wr lo hi w w' := by
  have hfit := h.fit
  obtain ⟨hown, hlt⟩ := h.now
  obtain ⟨a, cap, rfl, -⟩ := formAnswerS (OwnRw.rw hown)
  have hlen : m.length ≤ 1073741824 := by unfold cntAnswerS at hl; omega
  have hcn : Hid (k0 + cntAnswerS m = k0 + 6 * m.length) := rfl
  have hcap : m.length ≤ cap ∧ cap ≤ 9223372036854775807 := by obtain ⟨-, a', c', e, hc, -⟩ := hown; cases e; exact hc
  by_cases hm : m.length = 0
  · obtain rfl : m = [] := List.length_eq_zero_iff.1 hm
    have S : Hid (Sits (OwAnswerS lo hi (.slice a ([] : List Aw).length cap) (mkAnswerS k0 [])) lo hi w) := h
    clear h hown hlt hm
    simp only [List.length_nil] at *
    go_enter Tryz.func51, Tryz.ntmps51
    go_wp2
    go_loopw [5, 1] (fun x y wr => x = .int .i64 0 ∧ y = .int .i64 (k0 : Int) ∧ wr = w) (fun _ _ _ => 0)
    case atStart => exact ⟨rfl, rfl, rfl⟩
    case round =>
      obtain ⟨rfl, rfl, rfl⟩ := hrel
      go_wp2
      go_ret
      exact ⟨by simp [cntAnswerS], dUnhide S, Wr.refl _ _ _⟩
  · obtain ⟨b, off, rfl, hb1, hz0⟩ := hown.rwZ zeroAw (by omega)
    have hb2 : b < hi := by
      rcases hlt with h | h
      · exact absurd (by rw [h]; rfl) hm
      · exact h
    have FIN : Hid (∀ (W : World) (f : Nat → Aw), RwZ 6 Aw.cl W b off m.length f → (∀ i, i < m.length → f i = mkAw (k0 + 6 * i)) → hi ≤ W.heap.size → Sits (OwAnswerS lo hi (.slice (some ⟨b, off, none⟩) m.length cap) (mkAnswerS k0 m)) lo hi W) := fun W f hf he hW => by
      have o := hf.own (es := mkAnswerS k0 m) (cap := cap) (base := lo) (mkAnswerS_len k0 m).symm (fun i hi => by rw [mkAnswerS_at]; exact he i (by rw [mkAnswerS_len] at hi; exact hi)) hb1 (by rw [mkAnswerS_len]; omega) (by rw [mkAnswerS_len]; exact hcap)
      rw [mkAnswerS_len] at o
      exact OwG.sits ⟨o, .inr hb2⟩ hW
    have HZ0 := dHide hz0
    clear h hown hlt hz0 hm
    go_enter Tryz.func51, Tryz.ntmps51
    go_wp2
    go_loopw [5, 1] (fun x y wr => ∃ (k K : Nat) (f : Nat → Aw), x = .int .i64 (k : Int) ∧ y = .int .i64 (K : Int) ∧ k ≤ m.length ∧ Hid (K = k0 + 6 * k) ∧ Hid (RwZ 6 Aw.cl wr b off m.length f ∧ ∀ i, i < k → f i = mkAw (k0 + 6 * i)) ∧ Hid (Wr lo hi w wr) ∧ hi ≤ wr.heap.size) (fun x _ _ => m.length - (intOf x).toNat)
    case atStart => exact ⟨0, k0, _, rfl, rfl, Nat.zero_le _, rfl, ⟨dUnhide HZ0, fun i h => by omega⟩, Wr.refl _ _ _, hfit⟩
    case round =>
      obtain ⟨k, K, f, rfl, rfl, hkk, hK, hz, hw, hhi⟩ := hrel
      by_cases hlt : (k : Int) < (m.length : Int)
      · have hkl : k < m.length := by omega
        have hKb : K ≤ 8589934592 := by have := dUnhide hK; unfold cntAnswerS at hl; omega
        have hKb2 : K ≤ 2147483648 := by have := dUnhide hK; unfold cntAnswerS at hl; omega
        obtain ⟨z0, f0⟩ := (dUnhide hz).1 k hkl 0 _ rfl
        obtain ⟨z1, f1⟩ := (dUnhide hz).1 k hkl 1 _ rfl
        obtain ⟨z2, f2⟩ := (dUnhide hz).1 k hkl 2 _ rfl
        obtain ⟨z3, f3⟩ := (dUnhide hz).1 k hkl 3 _ rfl
        obtain ⟨z4, f4⟩ := (dUnhide hz).1 k hkl 4 _ rfl
        obtain ⟨z5, f5⟩ := (dUnhide hz).1 k hkl 5 _ rfl
        simp only [Nat.add_zero] at z0 f0
        have CT := dHide fun W => markText_any (K + 5) (by omega) (by omega) W
        have e3 : ((K + 5 : Nat) : Int) = (K : Int) + 1 + 1 + 1 + 1 + 1 := by omega
        rw [e3] at CT
        have Z0x := (dUnhide hz).1.cell Aw.cl_len hkl 0 (by decide) (.int .i64 ((K : Int))) ⟨(K : Int), (f k).has, ⟨(f k).ent.pl, (f k).ent.wave, (f k).ent.hole, (f k).ent.data⟩⟩ (by rfl)
        have Z1x := Z0x.cell Aw.cl_len hkl 1 (by decide) (.bool ((((K : Int) + 1) % 3 == 0))) ⟨(K : Int), (((K : Int) + 1) % 3 == 0), ⟨(f k).ent.pl, (f k).ent.wave, (f k).ent.hole, (f k).ent.data⟩⟩ (by simp only [putZ_same]; rfl)
        rw [putZ_twice] at Z1x
        have Z2x := Z1x.cell Aw.cl_len hkl 2 (by decide) (.int .i64 ((K : Int) + 1 + 1)) ⟨(K : Int), (((K : Int) + 1) % 3 == 0), ⟨(K : Int) + 1 + 1, (f k).ent.wave, (f k).ent.hole, (f k).ent.data⟩⟩ (by simp only [putZ_same]; rfl)
        rw [putZ_twice] at Z2x
        have Z3x := Z2x.cell Aw.cl_len hkl 3 (by decide) (.int .i64 ((K : Int) + 1 + 1 + 1)) ⟨(K : Int), (((K : Int) + 1) % 3 == 0), ⟨(K : Int) + 1 + 1, (K : Int) + 1 + 1 + 1, (f k).ent.hole, (f k).ent.data⟩⟩ (by simp only [putZ_same]; rfl)
        rw [putZ_twice] at Z3x
        have Z4x := Z3x.cell Aw.cl_len hkl 4 (by decide) (.bool ((((K : Int) + 1 + 1 + 1 + 1) % 3 == 0))) ⟨(K : Int), (((K : Int) + 1) % 3 == 0), ⟨(K : Int) + 1 + 1, (K : Int) + 1 + 1 + 1, (((K : Int) + 1 + 1 + 1 + 1) % 3 == 0), (f k).ent.data⟩⟩ (by simp only [putZ_same]; rfl)
        rw [putZ_twice] at Z4x
        have HZ3 := dHide Z4x
        have HW3 := dHide ((((((dUnhide hw).setAw (o := off + k * 6) hb1 hb2 (.int .i64 ((K : Int)))).setAw (o := off + k * 6 + 1) hb1 hb2 (.bool ((((K : Int) + 1) % 3 == 0)))).setAw (o := off + k * 6 + 2) hb1 hb2 (.int .i64 ((K : Int) + 1 + 1))).setAw (o := off + k * 6 + 3) hb1 hb2 (.int .i64 ((K : Int) + 1 + 1 + 1))).setAw (o := off + k * 6 + 4) hb1 hb2 (.bool ((((K : Int) + 1 + 1 + 1 + 1) % 3 == 0))))
        have s3 : hi ≤ (((((wr.setCell ⟨b, off + k * 6, none⟩ (.int .i64 ((K : Int)))).setCell ⟨b, off + k * 6 + 1, none⟩ (.bool ((((K : Int) + 1) % 3 == 0)))).setCell ⟨b, off + k * 6 + 2, none⟩ (.int .i64 ((K : Int) + 1 + 1))).setCell ⟨b, off + k * 6 + 3, none⟩ (.int .i64 ((K : Int) + 1 + 1 + 1))).setCell ⟨b, off + k * 6 + 4, none⟩ (.bool ((((K : Int) + 1 + 1 + 1 + 1) % 3 == 0)))).heap.size := by simpa using hhi
        have HF : Hid (∀ i, i < k → f i = mkAw (k0 + 6 * i)) := (dUnhide hz).2
        simp only [Nat.add_zero] at HZ3
        clear e3 Z0x Z1x Z2x Z3x Z4x hz hw
        go_wp2_with fail
        generalize (((((wr.setCell ⟨b, off + k * 6, none⟩ (.int .i64 ((K : Int)))).setCell ⟨b, off + k * 6 + 1, none⟩ (.bool ((((K : Int) + 1) % 3 == 0)))).setCell ⟨b, off + k * 6 + 2, none⟩ (.int .i64 ((K : Int) + 1 + 1))).setCell ⟨b, off + k * 6 + 3, none⟩ (.int .i64 ((K : Int) + 1 + 1 + 1))).setCell ⟨b, off + k * 6 + 4, none⟩ (.bool ((((K : Int) + 1 + 1 + 1 + 1) % 3 == 0)))) = V at *
        refine (dUnhide CT _).mono ?_
        rintro r w2 ⟨rfl, b2⟩
        have Z4 := (dUnhide HZ3).below b2
        obtain ⟨z5', f5'⟩ := Z4 k hkl 5 _ rfl
        have Z5 := Z4.cell Aw.cl_len hkl 5 (by decide) (.string (markT (K + 5))) ⟨(K : Int), (((K : Int) + 1) % 3 == 0), ⟨(K : Int) + 1 + 1, (K : Int) + 1 + 1 + 1, (((K : Int) + 1 + 1 + 1 + 1) % 3 == 0), markT (K + 5)⟩⟩ (by simp only [putZ_same]; rfl)
        rw [putZ_twice] at Z5
        have W5 := dHide (((dUnhide HW3).trans (Wr.of_below b2)).setAw (o := off + k * 6 + 5) hb1 hb2 (.string (markT (K + 5))))
        have s5 : hi ≤ w2.heap.size := Nat.le_trans s3 b2.size
        have HZ5 : Hid (RwZ 6 Aw.cl (w2.setCell ⟨b, off + k * 6 + 5, none⟩ (.string (markT (K + 5)))) b off m.length (putZ f k (mkAw (k0 + 6 * k)))) := by
          rw [← dUnhide hK, mkAw_at]
          exact Z5
        have HF2 : Hid (∀ i, i < k + 1 → putZ f k (mkAw (k0 + 6 * k)) i = mkAw (k0 + 6 * i)) := fun i h => by
          unfold putZ
          split
          · rename_i e; subst e; rfl
          · rename_i e; exact dUnhide HF i (by omega)
        have hK2 : Hid (K + 6 = k0 + 6 * (k + 1)) := by rw [Hid, dUnhide hK]; omega
        simp only [putZ_same] at z5'
        clear CT b2 Z4 Z5 HZ3 HW3 HF s3 z0 f0 z1 f1 z2 f2 z3 f3 z4 f4 z5 f5 hK hhi
        generalize markT (K + 5) = MT at *
        go_wp2
        go_roundw
        case rel => exact ⟨k + 1, K + 6, _, by go_num, by go_num, by omega, hK2, ⟨dUnhide HZ5, dUnhide HF2⟩, W5, by simpa using s5⟩
        case measure => simp [intOf]; omega
      · have e1 : k = m.length := by omega
        have e2 : Hid ((K : Int) = ((k0 + cntAnswerS m : Nat) : Int)) := by rw [Hid, dUnhide hK, dUnhide hcn, e1]
        have O := dHide (dUnhide FIN wr f (dUnhide hz).1 (fun i hi => (dUnhide hz).2 i (by omega)) hhi)
        clear hz hK FIN HZ0 hcn
        go_wp2
        go_ret
        exact ⟨by have e := dUnhide e2; simp only [Int.natCast_add] at e; simp [e], dUnhide O, dUnhide hw⟩
end Go.Proofs.YtapfdmmfhfkhkaaGreat
