/- Eras and registers, as the exact laws handle them: copied. -/
import Derived.Test.YtkiclbbialadlaaGreatGz19x
import Derived.Test.YtkiclbbialadlaaGreatGaB
namespace Go.Proofs.YtkiclbbialadlaaGreat
open Go.ChangeShapes Go.WideShapes Go.ChangeAt Go.RowKit
set_option linter.unusedVariables false
set_option linter.unusedSimpArgs false
set_option maxRecDepth 100000

set_option maxHeartbeats 4000000 in
theorem toEra_any (p : Nst Er) (w : World) (hl : p.m.nodes.length ≤ 1048576) (h : Ns w (Sv Er.nodes p) p.m.nodes) :
  Calls Tryz.prog 116 #[.agg #[.slice p.a p.m.nodes.length p.c, .bool p.m.closed, .int .i64 p.m.last]] w fun r w' => (∃ qa qc, r = .returned (.agg #[.slice qa p.m.nodes.length qc, .bool p.m.closed, .int .i64 p.m.last]) ∧ OwnN w' w.heap.size (.slice qa p.m.nodes.length qc) p.m.nodes) ∧ Below w.heap.size w w' := by
 have ba : ∀ (w : World) o, Below w.heap.size w (w.alloc o) := fun w o => (Below.refl _ _).alloc (Nat.le_refl _) o
 have C1 := dH fun W (hb : Below w.heap.size w W) => toIntS_any _ p.m.nodes W (by omega) (h.below hb)
 obtain ⟨pa, pc, yn, yb, yl⟩ := p
 unfold Sv at C1
 simp only at *
 clear h
 have X0 := (Bx.new w [.slice pa yn.length pc, .bool yb, .int .i64 yl] 169).below (bT (ba _ (.cells #[.slice none 0 0, .bool false, .int .i64 0] 183)) (ba _ (.cells #[.slice none 0 0, .bool false, .int .i64 0] 183)))
 have Y0 := (BxZ.new (B := w.heap.size) (w.alloc (.cells #[.slice pa yn.length pc, .bool yb, .int .i64 yl] 169)) [.slice none 0 0, .bool false, .int .i64 0] 183 (by simp)).below (ba _ (.cells #[.slice none 0 0, .bool false, .int .i64 0] 183))
 have Z0 := BxZ.new (B := w.heap.size) ((w.alloc (.cells #[.slice pa yn.length pc, .bool yb, .int .i64 yl] 169)).alloc (.cells #[.slice none 0 0, .bool false, .int .i64 0] 183)) [.slice none 0 0, .bool false, .int .i64 0] 183 (by simp <;> omega)
 have B0 := bT (bT (ba w (.cells #[.slice pa yn.length pc, .bool yb, .int .i64 yl] 169)) (ba _ (.cells #[.slice none 0 0, .bool false, .int .i64 0] 183))) (ba _ (.cells #[.slice none 0 0, .bool false, .int .i64 0] 183))
 have e1 : (w.alloc (.cells #[.slice pa yn.length pc, .bool yb, .int .i64 yl] 169)).heap.size = w.heap.size + 1 := by simp
 have e2 : ((w.alloc (.cells #[.slice pa yn.length pc, .bool yb, .int .i64 yl] 169)).alloc (.cells #[.slice none 0 0, .bool false, .int .i64 0] 183)).heap.size = w.heap.size + 1 + 1 := by simp
 rw [e1] at Y0
 rw [e2] at Z0
 clear e1 e2 hl
 go_enter Tryz.func116, Tryz.ntmps116
 go_wp2_with fail
 generalize ((w.alloc (.cells #[.slice pa yn.length pc, .bool yb, .int .i64 yl] 169)).alloc (.cells #[.slice none 0 0, .bool false, .int .i64 0] 183)).alloc (.cells #[.slice none 0 0, .bool false, .int .i64 0] 183) = w0 at *
 have hlt := Z0.lt
 refine (dU C1 _ B0).mono ?_
 rintro r w1 ⟨⟨u1, rfl, O1⟩, b1⟩
 have hs1 := b1.size
 obtain ⟨-, a1, c1, rfl, -, -⟩ := O1.bs
 have B1 := bT B0 b1
 have X1 := X0.below b1
 have Y1 := Y0.below b1
 have Z1 := Z0.below b1
 have k0 := X1 0 _ rfl
 have k1 := X1 1 _ rfl
 have k2 := X1 2 _ rfl
 obtain ⟨z0, f0⟩ := Z1.2 0 _ rfl
 obtain ⟨z1, f1⟩ := Z1.2 1 _ rfl
 obtain ⟨z2, f2⟩ := Z1.2 2 _ rfl
 obtain ⟨y0, p0⟩ := Y1.2 0 _ rfl
 obtain ⟨y1, p1⟩ := Y1.2 1 _ rfl
 obtain ⟨y2, p2⟩ := Y1.2 2 _ rfl
 have YY := dH ((((((Y1.far (b' := w.heap.size + 1 + 1) (o := 0) (by omega) (.slice a1 yn.length c1)).far (b' := w.heap.size + 1 + 1) (o := 1) (by omega) (.bool yb)).far (b' := w.heap.size + 1 + 1) (o := 2) (by omega) (.int .i64 yl)).put 0 (.slice a1 yn.length c1)).put 1 (.bool yb)).put 2 (.int .i64 yl))
 have OO := dH ((((((O1.far (b := w.heap.size + 1 + 1) (o := 0) (by omega) (.slice a1 yn.length c1)).far (b := w.heap.size + 1 + 1) (o := 1) (by omega) (.bool yb)).far (b := w.heap.size + 1 + 1) (o := 2) (by omega) (.int .i64 yl)).far (b := w.heap.size + 1) (o := 0) (by omega) (.slice a1 yn.length c1)).far (b := w.heap.size + 1) (o := 1) (by omega) (.bool yb)).far (b := w.heap.size + 1) (o := 2) (by omega) (.int .i64 yl))
 have BB := dH ((((((B1.setCell (p := ⟨w.heap.size + 1 + 1, 0, none⟩) (by simp only; omega) (.slice a1 yn.length c1)).setCell (p := ⟨w.heap.size + 1 + 1, 1, none⟩) (by simp only; omega) (.bool yb)).setCell (p := ⟨w.heap.size + 1 + 1, 2, none⟩) (by simp only; omega) (.int .i64 yl)).setCell (p := ⟨w.heap.size + 1, 0, none⟩) (by simp only; omega) (.slice a1 yn.length c1)).setCell (p := ⟨w.heap.size + 1, 1, none⟩) (by simp only; omega) (.bool yb)).setCell (p := ⟨w.heap.size + 1, 2, none⟩) (by simp only; omega) (.int .i64 yl))
 have w0le : w.heap.size ≤ w0.heap.size := by omega
 clear X0 Y0 Z0 B0 C1 b1 O1 X1 Y1 Z1 B1
 go_wp2_with fail
 generalize ((((((w1.setCell ⟨w.heap.size + 1 + 1, 0, none⟩ (.slice a1 yn.length c1)).setCell ⟨w.heap.size + 1 + 1, 1, none⟩ (.bool yb)).setCell ⟨w.heap.size + 1 + 1, 2, none⟩ (.int .i64 yl)).setCell ⟨w.heap.size + 1, 0, none⟩ (.slice a1 yn.length c1)).setCell ⟨w.heap.size + 1, 1, none⟩ (.bool yb)).setCell ⟨w.heap.size + 1, 2, none⟩ (.int .i64 yl)) = V at *
 have q0 := ((dU YY).2 0 _ rfl).1
 have q1 := ((dU YY).2 1 _ rfl).1
 have q2 := ((dU YY).2 2 _ rfl).1
 clear z0 z1 z2 f0 f1 f2 y0 y1 y2 p0 p1 p2 k0 k1 k2
 refine bodyPost_ret (v := .agg #[.slice a1 yn.length c1, .bool yb, .int .i64 yl]) (by simp [results, Tryz.results116, go_sem, q0, q1, q2]) rfl ⟨⟨_, _, rfl, (dU OO).mono w0le⟩, dU BB⟩
theorem makeR (n : Nat) (h : n ≤ 1073741824) (w : World) : (Instr.makeSlice 40 (.int .i64 (n : Int)) (.int .i64 (n : Int))).run Tryz.prog w = .ok (.slice (some ⟨w.heap.size, 0, none⟩) n n) (w.alloc (.cells (madeCells (Value.agg #[.slice none 0 0, .bool false, .int .i64 0]).cells (n * 3)) 183)) := by
 obtain ⟨i0, hi, hz0, hz1, hz2⟩ := info_parts (elemR).info
 have := run_make (P := Tryz.prog) w 40 183 i0 _ Tryz.underlying40 hi hz0 .i64 .i64 (n : Int) (n : Int) (by omega) (by omega) (by rw [hz2]; omega) (by omega)
 rw [hz1] at this
 simpa using this
def zeroEr : Nst Er := ⟨none, 0, [], false, 0⟩
theorem zeroEr_cells : ∀ (j : Nat) (u : Value), (erCl zeroEr)[j]? = some u → (Value.agg #[.slice none 0 0, .bool false, .int .i64 0]).cells[j]? = some u := by
 have e : (Value.agg #[.slice none 0 0, .bool false, .int .i64 0]).cells = #[.slice none 0 0, .bool false, .int .i64 0] := by kernel_rfl
 intro j u hu
 rw [e]
 have : (erCl zeroEr) = [.slice none 0 0, .bool false, .int .i64 0] := rfl
 rw [this] at hu
 simpa using hu
def CopK (wr : World) (b : Nat) (rs : List (Nst Er)) (k : Nat) (f : Nat → Nst Er) : Prop :=
 RowG 3 erCl wr b 0 rs.length f ∧ (∀ i (h : i < rs.length), i < k → (f i).m = rs[i].m ∧ OwnN wr (b + 1) (Sv Er.nodes (f i)) (f i).m.nodes) ∧ ∀ i j, i < k → j < k → i < j → (f i).m.nodes = [] ∨ (f j).m.nodes = [] ∨ bO (Sv Er.nodes (f i)) ≠ bO (Sv Er.nodes (f j))
theorem CopK.step {wr w2 : World} {b k : Nat} {rs : List (Nst Er)} {f : Nat → Nst Er} (h : CopK wr b rs k f) (hk : k < rs.length) (hb2 : Below wr.heap.size wr w2) (hbw : b < wr.heap.size) {qa : Option Addr} {qc : Nat} (ho : OwnN w2 wr.heap.size (.slice qa rs[k].m.nodes.length qc) rs[k].m.nodes) :
  CopK (((w2.setCell ⟨b, k * 3, none⟩ (.slice qa rs[k].m.nodes.length qc)).setCell ⟨b, k * 3 + 1, none⟩ (.bool rs[k].m.closed)).setCell ⟨b, k * 3 + 2, none⟩ (.int .i64 rs[k].m.last)) b rs (k + 1) (putG f k ⟨qa, qc, rs[k].m⟩) := by
 obtain ⟨h1, h2, h3⟩ := h
 have far : ∀ {base : Nat} {v : Value} {xs : List Int}, OwnN w2 base v xs → b < base → OwnN (((w2.setCell ⟨b, k * 3, none⟩ (.slice qa rs[k].m.nodes.length qc)).setCell ⟨b, k * 3 + 1, none⟩ (.bool rs[k].m.closed)).setCell ⟨b, k * 3 + 2, none⟩ (.int .i64 rs[k].m.last)) base v xs := fun {base v xs} q hb => ((q.far hb _).far hb _).far hb _
 refine ⟨?_, fun i hi hik => ?_, fun i j hi hj hij => ?_⟩
 ·have r1 := (h1.below hb2).put erCl_len hk 0 (by decide) (.slice qa rs[k].m.nodes.length qc) ⟨qa, qc, ⟨rs[k].m.nodes, (f k).m.closed, (f k).m.last⟩⟩ rfl
  have r2 := r1.put erCl_len hk 1 (by decide) (.bool rs[k].m.closed) ⟨qa, qc, ⟨rs[k].m.nodes, rs[k].m.closed, (f k).m.last⟩⟩ (by rw [putG_same]; rfl)
  have r3 := r2.put erCl_len hk 2 (by decide) (.int .i64 rs[k].m.last) ⟨qa, qc, rs[k].m⟩ (by rw [putG_same]; rfl)
  simpa [putG_twice] using r3
 ·by_cases e : i = k
  ·subst e
   rw [putG_same]
   exact ⟨rfl, far (ho.mono (by omega)) (by omega)⟩
  ·rw [putG_ne _ _ e]
   have q := h2 i hi (by omega)
   exact ⟨q.1, far (q.2.below hb2) (by omega)⟩
 ·by_cases e : j = k
  ·subst e
   rw [putG_same, putG_ne _ _ (by omega)]
   have q := h2 i (by omega) (by omega)
   rcases q.2.bs.lt with h | h
   ·exact .inl h
   ·rcases ho.ge with h' | h'
    ·exact .inr (.inl h')
    ·right; right
     have e1 : bO (Sv Er.nodes (⟨qa, qc, rs[j].m⟩ : Nst Er)) = bO (.slice qa rs[j].m.nodes.length qc) := rfl
     rw [e1]
     omega
  ·rw [putG_ne _ _ e, putG_ne _ _ (by omega)]
   exact h3 i j (by omega) (by omega) hij
set_option maxHeartbeats 4000000 in
theorem toEraS_own (v : Value) (ms : List Er) (w : World) (hl : sizEraS ms ≤ 1048576) (hv : RdEraS v ms w) :
  Calls Tryz.prog 69 #[v] w fun r w' => (∃ u, r = .returned u ∧ OwEraS w.heap.size w'.heap.size u ms w') ∧ Below w.heap.size w w' := by
 obtain ⟨rs, rfl, hr, hn⟩ := hv
 have hlen : rs.length ≤ 1048576 := by unfold sizEraS at hl; rw [List.length_map] at hl; omega
 have HS : Hid (∀ k (hk : k < rs.length), rs[k].m.nodes.length ≤ 1048576) := fun k hk => by
  have h1 := sumN_mem (ms := rs.map Nst.m) (k := k) (by simpa using hk)
  rw [List.getElem_map] at h1
  unfold sizEraS at hl
  omega
 have HV := dH fun W (hb : Below w.heap.size w W) => hr.below hb
 have HN := dH fun W (hb : Below w.heap.size w W) k (hk : k < rs.length) => (hn _ (List.getElem_mem hk)).below hb
 obtain ⟨h0, a, cap, rfl, -, -⟩ := hr
 have hmk := makeR rs.length (by omega)
 clear hn hl
 go_enter Tryz.func69, Tryz.ntmps69
 go_wp2
 go_loopw [4] (fun x wr => ∃ (k : Nat) (f : Nat → Nst Er), x = .int .i64 (k : Int) ∧ k ≤ rs.length ∧ Hid (CopK wr w.heap.size rs k f) ∧ w.heap.size < wr.heap.size ∧ Below w.heap.size w wr) (fun x _ => rs.length - (intOf x).toNat)
 case atStart => exact ⟨0, fun _ => zeroEr, rfl, Nat.zero_le _, ⟨RowG.made w _ rs.length 183 zeroEr rfl zeroEr_cells, fun i h h' => by omega, fun i j h => by omega⟩, by simp, (Below.refl _ _).alloc (Nat.le_refl _) _⟩
 case round =>
  obtain ⟨k, f, rfl, hk, hz, hsz, hb⟩ := hrel
  by_cases hlt : (k : Int) < (rs.length : Int)
  ·have hkl : k < rs.length := by omega
   obtain ⟨b, off, rfl, hc⟩ := (dU HV wr hb).era hkl
   obtain ⟨c0, c1, c2⟩ := hc k hkl
   have CE := dH fun W (hB : Below wr.heap.size wr W) => toEra_any rs[k] W (dU HS k hkl) (dU HN W (bT hb hB) k hkl)
   have hin : Hid (∀ (w2 : World) (qa : Option Addr) (qc : Nat), Below wr.heap.size wr w2 → OwnN w2 wr.heap.size (.slice qa rs[k].m.nodes.length qc) rs[k].m.nodes → CopK (((w2.setCell ⟨w.heap.size, k * 3, none⟩ (.slice qa rs[k].m.nodes.length qc)).setCell ⟨w.heap.size, k * 3 + 1, none⟩ (.bool rs[k].m.closed)).setCell ⟨w.heap.size, k * 3 + 2, none⟩ (.int .i64 rs[k].m.last)) w.heap.size rs (k + 1) (putG f k ⟨qa, qc, rs[k].m⟩)) := fun w2 qa qc hB ho => (dU hz).step hkl hB hsz ho
   have hrow : Hid (∀ W, Below wr.heap.size wr W → RowG 3 erCl W w.heap.size 0 rs.length f) := fun W hB => (dU hz).1.below hB
   generalize rs[k] = y at *
   obtain ⟨ya, yc, yn, yb, yl⟩ := y
   simp only at *
   clear hc hz
   go_wp2_with fail
   refine (dU CE _ (Below.refl _ _)).mono ?_
   rintro r w2 ⟨⟨qa, qc, rfl, ho⟩, b2⟩
   have Z2 := dU hrow w2 b2
   obtain ⟨z0, f0⟩ := Z2 k hkl 0 _ rfl
   obtain ⟨z1, f1⟩ := Z2 k hkl 1 _ rfl
   obtain ⟨z2, f2⟩ := Z2 k hkl 2 _ rfl
   have Z3 := dH (dU hin w2 qa qc b2 ho)
   simp only [Nat.zero_add, Nat.add_zero] at z0 z1 z2 f0 f1 f2
   have hb2 := bT hb b2
   have hb3 := dH (((hb2.setCell (p := ⟨w.heap.size, k * 3, none⟩) (Nat.le_refl _) (.slice qa yn.length qc)).setCell (p := ⟨w.heap.size, k * 3 + 1, none⟩) (Nat.le_refl _) (.bool yb)).setCell (p := ⟨w.heap.size, k * 3 + 2, none⟩) (Nat.le_refl _) (.int .i64 yl))
   have hs2 : w.heap.size < (((w2.setCell ⟨w.heap.size, k * 3, none⟩ (.slice qa yn.length qc)).setCell ⟨w.heap.size, k * 3 + 1, none⟩ (.bool yb)).setCell ⟨w.heap.size, k * 3 + 2, none⟩ (.int .i64 yl)).heap.size := by simpa using Nat.lt_of_lt_of_le hsz b2.size
   clear CE b2 c0 c1 c2 hb hrow Z2 hb2 hin ho
   go_wp2
   go_roundw
   case rel => exact ⟨k + 1, _, by go_num, by omega, Z3, hs2, dU hb3⟩
   case measure => simp [intOf]; omega
  ·have O : Hid (OwEraS w.heap.size wr.heap.size (.slice (some ⟨w.heap.size, 0, none⟩) rs.length rs.length) (rs.map Nst.m) wr) := by
    obtain ⟨h1, h2, h3⟩ := dU hz
    have q := OwK.build (sub := Er.nodes) (lo := w.heap.size) (hi := wr.heap.size) (cap := rs.length) h1 (Nat.le_refl _) (.inr hsz) (by omega) (fun i hi => by
     have q := (h2 i hi (by omega)).2
     exact ⟨q.mono (by omega), q.bs.lt⟩) (fun i j hi hj hij => by
     rcases Nat.lt_or_gt_of_ne hij with h | h
     ·exact h3 i j (by omega) (by omega) h
     ·rcases h3 j i (by omega) (by omega) h with h | h | h
      ·exact .inr (.inl h)
      ·exact .inl h
      ·exact .inr (.inr (Ne.symm h))) (fun i hi => by
     rcases (h2 i hi (by omega)).2.ge with h | h
     ·exact .inl h
     ·exact .inr (by omega))
    have hm : ((List.range rs.length).map fun i => (f i).m) = rs.map Nst.m := range_map_m (ms := rs.map Nst.m) (by simp) (fun i hi => by
     have hi' : i < rs.length := by simpa using hi
     rw [List.getElem_map]
     exact (h2 i hi' (by omega)).1)
    rw [hm] at q
    exact q
   clear hz HV HN HS
   go_wp2
   go_ret
   exact ⟨⟨_, rfl, dU O⟩, hb⟩
set_option maxHeartbeats 4000000 in
theorem toRegister_ (v : Value) (m : Rg) (w : World) (hl : sizRegister m ≤ 1048576) (h : RdRegister v m w) :
  Calls Tryz.prog 31 #[v] w fun e w' => ∃ u, e = .returned u ∧ Sits (OwRegister w.heap.size w'.heap.size u m) w.heap.size w'.heap.size w' ∧ Below w.heap.size w w' := by
 have ba : ∀ (w : World) o, Below w.heap.size w (w.alloc o) := fun w o => (Below.refl _ _).alloc (Nat.le_refl _) o
 obtain ⟨sv, rfl, h⟩ := h
 have C1 := dH fun W (hb : Below w.heap.size w W) => toEraS_own sv m.eras W hl (RdK.below h hb)
 obtain ⟨pa, pc, rfl, -⟩ := formK h
 have EX : Hid (∀ (W : World) (u : Value), OwEraS w.heap.size W.heap.size u m.eras W → Sits (OwRegister w.heap.size W.heap.size (.agg #[u, .int .i64 m.trim]) m) w.heap.size W.heap.size W) := fun W u o => OwRegister.sits ⟨u, rfl, o⟩ (Nat.le_refl _)
 generalize m.trim = yl at *
 generalize m.eras = ms at *
 have X0 := (Bx.new w [.slice pa ms.length pc, .int .i64 yl] 28).below (bT (ba _ (.cells #[.slice none 0 0, .int .i64 0] 42)) (ba _ (.cells #[.slice none 0 0, .int .i64 0] 42)))
 have Y0 := (BxZ.new (B := w.heap.size) (w.alloc (.cells #[.slice pa ms.length pc, .int .i64 yl] 28)) [.slice none 0 0, .int .i64 0] 42 (by simp)).below (ba _ (.cells #[.slice none 0 0, .int .i64 0] 42))
 have Z0 := BxZ.new (B := w.heap.size) ((w.alloc (.cells #[.slice pa ms.length pc, .int .i64 yl] 28)).alloc (.cells #[.slice none 0 0, .int .i64 0] 42)) [.slice none 0 0, .int .i64 0] 42 (by simp <;> omega)
 have B0 := bT (bT (ba w (.cells #[.slice pa ms.length pc, .int .i64 yl] 28)) (ba _ (.cells #[.slice none 0 0, .int .i64 0] 42))) (ba _ (.cells #[.slice none 0 0, .int .i64 0] 42))
 have e1 : (w.alloc (.cells #[.slice pa ms.length pc, .int .i64 yl] 28)).heap.size = w.heap.size + 1 := by simp
 have e2 : ((w.alloc (.cells #[.slice pa ms.length pc, .int .i64 yl] 28)).alloc (.cells #[.slice none 0 0, .int .i64 0] 42)).heap.size = w.heap.size + 1 + 1 := by simp
 rw [e1] at Y0
 rw [e2] at Z0
 clear e1 e2 h hl
 go_enter Tryz.func31, Tryz.ntmps31
 go_wp2_with fail
 generalize ((w.alloc (.cells #[.slice pa ms.length pc, .int .i64 yl] 28)).alloc (.cells #[.slice none 0 0, .int .i64 0] 42)).alloc (.cells #[.slice none 0 0, .int .i64 0] 42) = w0 at *
 have hlt := Z0.lt
 refine (dU C1 _ B0).mono ?_
 rintro r w1 ⟨⟨u1, rfl, O1⟩, b1⟩
 have hs1 := b1.size
 obtain ⟨a1, c1, rfl, -⟩ := formK (OwK.rd O1)
 have B1 := bT B0 b1
 have X1 := X0.below b1
 have Y1 := Y0.below b1
 have Z1 := Z0.below b1
 have k0 := X1 0 _ rfl
 have k1 := X1 1 _ rfl
 obtain ⟨z0, f0⟩ := Z1.2 0 _ rfl
 obtain ⟨z1, f1⟩ := Z1.2 1 _ rfl
 obtain ⟨y0, p0⟩ := Y1.2 0 _ rfl
 obtain ⟨y1, p1⟩ := Y1.2 1 _ rfl
 have YY := dH ((((Y1.far (b' := w.heap.size + 1 + 1) (o := 0) (by omega) (.slice a1 ms.length c1)).far (b' := w.heap.size + 1 + 1) (o := 1) (by omega) (.int .i64 yl)).put 0 (.slice a1 ms.length c1)).put 1 (.int .i64 yl))
 have OO : Hid (OwEraS w0.heap.size w1.heap.size (.slice a1 ms.length c1) ms ((((w1.setCell ⟨w.heap.size + 1 + 1, 0, none⟩ (.slice a1 ms.length c1)).setCell ⟨w.heap.size + 1 + 1, 1, none⟩ (.int .i64 yl)).setCell ⟨w.heap.size + 1, 0, none⟩ (.slice a1 ms.length c1)).setCell ⟨w.heap.size + 1, 1, none⟩ (.int .i64 yl))) := OwK.far (OwK.far (OwK.far (OwK.far O1 (b := w.heap.size + 1 + 1) (o := 0) (by omega) (.slice a1 ms.length c1)) (b := w.heap.size + 1 + 1) (o := 1) (by omega) (.int .i64 yl)) (b := w.heap.size + 1) (o := 0) (by omega) (.slice a1 ms.length c1)) (b := w.heap.size + 1) (o := 1) (by omega) (.int .i64 yl)
 have BB := dH ((((B1.setCell (p := ⟨w.heap.size + 1 + 1, 0, none⟩) (by simp only; omega) (.slice a1 ms.length c1)).setCell (p := ⟨w.heap.size + 1 + 1, 1, none⟩) (by simp only; omega) (.int .i64 yl)).setCell (p := ⟨w.heap.size + 1, 0, none⟩) (by simp only; omega) (.slice a1 ms.length c1)).setCell (p := ⟨w.heap.size + 1, 1, none⟩) (by simp only; omega) (.int .i64 yl))
 have w0le : w.heap.size ≤ w0.heap.size := by omega
 have hV : w1.heap.size = ((((w1.setCell ⟨w.heap.size + 1 + 1, 0, none⟩ (.slice a1 ms.length c1)).setCell ⟨w.heap.size + 1 + 1, 1, none⟩ (.int .i64 yl)).setCell ⟨w.heap.size + 1, 0, none⟩ (.slice a1 ms.length c1)).setCell ⟨w.heap.size + 1, 1, none⟩ (.int .i64 yl)).heap.size := by simp
 clear X0 Y0 Z0 B0 C1 b1 O1 X1 Y1 Z1 B1
 go_wp2_with fail
 generalize ((((w1.setCell ⟨w.heap.size + 1 + 1, 0, none⟩ (.slice a1 ms.length c1)).setCell ⟨w.heap.size + 1 + 1, 1, none⟩ (.int .i64 yl)).setCell ⟨w.heap.size + 1, 0, none⟩ (.slice a1 ms.length c1)).setCell ⟨w.heap.size + 1, 1, none⟩ (.int .i64 yl)) = V at *
 have q0 := ((dU YY).2 0 _ rfl).1
 have q1 := ((dU YY).2 1 _ rfl).1
 clear z0 z1 f0 f1 y0 y1 p0 p1 k0 k1
 refine bodyPost_ret (v := .agg #[.slice a1 ms.length c1, .int .i64 yl]) (by simp [results, Tryz.results31, go_sem, q0, q1]) rfl ⟨_, rfl, dU EX V _ ((dU OO).wide w0le (by omega)), dU BB⟩
end Go.Proofs.YtkiclbbialadlaaGreat
