/- slices.Insert of one int, in a list that nobody else has. -/
import Derived.Test.YtjkjmapibcfcdaaGreatGw2
import Derived.Test.YtjkjmapibcfcdaaGreatGaD
import Derived.Lib.AppendZerosOnto
import Derived.Lib.Overlaps
import Derived.Deep.RegionLaw
import Derived.Deep.RegionHeld3
namespace Go.Proofs.YtjkjmapibcfcdaaGreat
open Go.ChangeShapes Go.WideShapes Go.ChangeAt Go.RowKit
set_option linter.unusedVariables false
set_option linter.unusedSimpArgs false
set_option maxRecDepth 100000

theorem splice_atI {α : Type} (A Z B : List α) : splice (A ++ Z) A.length B = A ++ (B ++ Z.drop B.length) := by
  unfold splice
  rw [List.take_left, List.drop_append]
  have e : A.length + B.length - A.length = B.length := by omega
  rw [e, List.drop_eq_nil_of_le (by omega)]
  simp
theorem splice_growI {α : Type} (A Z B D : List α) : splice (splice (A ++ Z) A.length B) (A.length + B.length) D = A ++ (B ++ (D ++ (Z.drop B.length).drop D.length)) := by
  rw [splice_atI, ← List.append_assoc]
  have := splice_atI (A ++ B) (Z.drop B.length) D
  rw [List.length_append] at this
  rw [this, List.append_assoc]
theorem splice_shiftI {α : Type} (A M Z B D : List α) (h : B.length = M.length) : splice (splice (A ++ (M ++ Z)) (A.length + M.length) D) A.length B = A ++ (B ++ (D ++ Z.drop D.length)) := by
  have h1 := splice_atI (A ++ M) Z D
  rw [List.length_append, List.append_assoc] at h1
  rw [h1, List.append_assoc, splice_atI, h, List.drop_left]
section
variable {w : World} {ops : Array Oper} {rest : List Oper} {o : Oper} {a : Act} {Q : Exit → Act → World → Prop}
theorem wp_growZI {α : Type} {T TS tn : TypeId} {z : Value} {sz bytes : Nat} {cl : α → List Value} (E : Elem T TS z sz bytes cl) (htn : Tryz.prog.underlying tn = some (.int .i64)) (hgd : o.guard = none) (s x : Operand) (ho : o.op = .call { callee := .builtin .append, args := #[s, x], argTypes := #[TS, tn] })
    (g i c k N : Nat) (hN : i + k = N) (olds : List α) (hs : a.eval s = .slice (some ⟨g, 0, none⟩) i c) (hx : a.eval x = .int .i64 (k : Int)) (hol : olds.length = i) (hold : ∀ j u, (fcells cl olds)[j]? = some u → w.cell? ⟨g, j, none⟩ = some u)
    (h0 : 0 < k) (hg : c < i + k) (hb : (i + k) * bytes ≤ 140737488355328) (hb2 : 0 < bytes)
    (h : ∀ w' G Z ROW, Hid (ROW = fcells cl olds ++ Z) → Hid (w'.heap[w.heap.size]? = some (.cells ROW.toArray T (0, 0))) → Hid (w.grownBy w' none) → N ≤ G → G ≤ 9223372036854775807 → Hid (Z.length = (G - i) * sz) → wpList Tryz.prog ops Q rest (a.put o.dst (.slice (some ⟨w.heap.size, 0, none⟩) N G)) w') : wpList Tryz.prog ops Q (o :: rest) a w := by
  subst hN
  refine wpList_plain hgd fun K' hK' => ?_
  obtain ⟨i0, hi0, hz0, hzs, hzb⟩ := info_parts E.info
  have hik : i + k ≤ 140737488355328 := Nat.le_trans (Nat.le_mul_of_pos_right _ hb2) hb
  have hk : k * bytes ≤ 140737488355328 := Nat.le_trans (Nat.mul_le_mul_right _ (by omega)) hb
  have hfc : (Builtin.firstCells i0.size i (.slice (some ⟨g, 0, none⟩) i c)).run Tryz.prog w.drew = .ok (fcells cl olds).toArray w.drew := by
    rw [hzs]
    exact run_firstCells_some w.drew sz i ⟨g, 0, none⟩ i c (fcells cl olds) (by rw [fcells_len E.len, hol]) (fun j u hu => by
      rw [addr_add, Nat.zero_add]
      exact hold j u hu)
  have hr := Lib.run_append_grow_zeros (P := Tryz.prog) w TS tn o.type T i0 _ .i64 .i64 E.under htn hi0 hz0 (some ⟨g, 0, none⟩) i c (fcells cl olds) hfc k h0 (by rw [hzs]; exact E.pos) hg (by omega) (by rw [hzb]; omega) (by rw [hzb]; exact growslice_fits hg hb)
  have hGn := grownCap_ge w (i + k) c T
  have hG63 := grownCap_le_maxLen w (i + k) c T (by unfold maxLen; omega)
  unfold maxLen at hG63
  generalize hG : grownCap w (i + k) c T = G at *
  have hZ : ((Builtin.zeroCells z.cells k).toList ++ (Builtin.zeroCells z.cells (G - (i + k))).toList).length = (G - i) * sz := by
    rw [List.length_append, Array.length_toList, Array.length_toList, zeroCells_size, zeroCells_size, E.zcells, ← Nat.add_mul]
    congr 1
    omega
  unfold Oper.wp
  simp [execOp, ho, resolve, invoke, builtin, hs, hx, hr, Result.andThen]
  refine hK' _ _ (h _ G ((Builtin.zeroCells z.cells k).toList ++ (Builtin.zeroCells z.cells (G - (i + k))).toList) _ (show _ = _ from rfl) ?_ ?_ hGn hG63 hZ)
  · show _ = _
    have e1 : ((fcells cl olds).toArray ++ (Builtin.zeroCells z.cells k ++ Builtin.zeroCells z.cells (G - (i + k)))) = (fcells cl olds ++ ((Builtin.zeroCells z.cells k).toList ++ (Builtin.zeroCells z.cells (G - (i + k))).toList)).toArray := by apply Array.ext'; simp
    rw [e1]
    exact (MapKept.heap_alloc w.drew _).1
  · exact ⟨rfl, rfl, rfl, by simp, fun k' hk' _ => (MapKept.heap_alloc w.drew _).2 k' hk'⟩
end
def iCl (x : Int) : List Value := [.int .i64 x]
theorem elemI : Elem (α := Int) 3 24 (.int .i64 0) 1 8 iCl := elemN
def ApI (w : World) (base : Nat) (v : Value) (xs : List Int) : Prop := ApR 3 1 iCl w base v xs
def InsQI (w : World) (base : Nat) (v : Value) (ns : List Int) (r : Ending) (w' : World) : Prop :=
  ∃ v', r = .returned v' ∧ ApI w' base v' ns ∧ w.grownBy w' (touch v) ∧ (touch v' = touch v ∨ ∀ k, touch v' = some k → w.heap.size ≤ k)
set_option maxHeartbeats 4000000 in
theorem insN_end (v sv : Value) (ms : List Int) (x : Int) (w : World) (base : Nat) (h : ApI w base v ms) (hs : Rw 1 iCl w sv [x]) (hl : ms.length ≤ 1048576) (hbase : base ≤ w.heap.size) :
    Calls Tryz.prog 119 #[v, .int .i64 (ms.length : Int), sv] w (InsQI w base v (ms ++ [x])) := by
  have H := dH h
  have HS := dH hs
  obtain ⟨a, c, rfl⟩ := ApR.slice elemI h
  have hnc : ms.length ≤ c ∧ c ≤ 9223372036854775807 := by
    obtain ⟨-, a', c', e, hc, -⟩ := ApR.own elemI h
    cases e
    exact hc
  have ha : ms.length = 0 ∨ ∃ ad, a = some ad := by
    obtain ⟨-, a', c', e, -, hc⟩ := ApR.own elemI h
    cases e
    rcases hc with hc | ⟨b, off, rfl, -⟩
    · exact .inl (by simp [hc])
    · exact .inr ⟨_, rfl⟩
  obtain ⟨-, sa, sc, rfl, hsc, -⟩ := hs
  have FIN : Hid (∀ v' w', ApI w' base v' (ms ++ [x]) → w.grownBy w' (touch (.slice a ms.length c)) → (touch v' = touch (.slice a ms.length c) ∨ ∀ k, touch v' = some k → w.heap.size ≤ k) → InsQI w base (.slice a ms.length c) (ms ++ [x]) (.returned v') w') := fun v' w' h1 h2 h3 => ⟨v', rfl, h1, h2, h3⟩
  generalize InsQI w base (.slice a ms.length c) (ms ++ [x]) = Q at *
  clear h
  simp only [List.length_singleton] at *
  cases a with
  | none =>
    have h0 : ms.length = 0 := by
      rcases ha with h | ⟨ad, h⟩
      · exact h
      · cases h
    go_enter Tryz.func119, Tryz.ntmps119
    go_wp2_with (at_builtin; refine wp_apR elemI rfl _ _ rfl base _ ms rfl (dU H) _ [x] rfl (dU HS) (by simp; omega) (by simp; omega) hbase ?_; intro v' w' h1 h2 h3; have F := dH (dU FIN _ _ h1 h2 h3); clear h1 h2 h3)
    all_goals exact dU F
  | some ad =>
    go_enter Tryz.func119, Tryz.ntmps119
    go_wp2_with (at_builtin; refine wp_apR elemI rfl _ _ rfl base _ ms rfl (dU H) _ [x] rfl (dU HS) (by simp; omega) (by simp; omega) hbase ?_; intro v' w' h1 h2 h3; have F := dH (dU FIN _ _ h1 h2 h3); clear h1 h2 h3)
    all_goals exact dU F
theorem grownR_trans {w w1 w2 : World} {r : Option Nat} (h1 : w.grownBy w1 r) (h2 : w1.grownBy w2 r) : w.grownBy w2 r :=
  ⟨h2.os.trans h1.os, h2.tape.trans h1.tape, h2.output.trans h1.output, Nat.le_trans h1.size h2.size, fun k hk hn => (h2.block k (Nat.lt_of_lt_of_le hk h1.size) hn).trans (h1.block k hk hn)⟩
theorem grown_newI {w w1 w2 : World} {r : Option Nat} {g : Nat} (h1 : w.grownBy w1 r) (h2 : w1.grownBy w2 (some g)) (hg : w.heap.size ≤ g) : w.grownBy w2 r :=
  ⟨h2.os.trans h1.os, h2.tape.trans h1.tape, h2.output.trans h1.output, Nat.le_trans h1.size h2.size, fun k hk hn => (h2.block k (Nat.lt_of_lt_of_le hk h1.size) (by intro e; cases e; omega)).trans (h1.block k hk hn)⟩
theorem grown_of_drewI {w w1 : World} {r : Option Nat} (h : w.drew.grownBy w1 r) : w.grownBy w1 r := ⟨h.os, h.tape, h.output, h.size, h.block⟩
theorem fcN_split (ms : List Int) (i : Nat) : fcells iCl ms = fcells iCl (ms.take i) ++ fcells iCl (ms.drop i) := by rw [← fcells_app, List.take_append_drop]
theorem fcN_mid (ms : List Int) (x : Int) (i : Nat) : fcells iCl (ms.take i ++ x :: ms.drop i) = fcells iCl (ms.take i) ++ ((iCl x) ++ fcells iCl (ms.drop i)) := by rw [fcells_app]; rfl
set_option maxHeartbeats 4000000 in
theorem insN_grow (g vb i c : Nat) (ms : List Int) (x : Int) (w : World) (base : Nat) (h : w.ownsRow base 3 1 (.slice (some ⟨g, 0, none⟩) ms.length c) ms.length (fcells iCl ms)) (hvs : ∀ j u, (iCl x)[j]? = some u → w.cell? ⟨vb, j, none⟩ = some u) (hl : ms.length ≤ 1048576) (hi : i < ms.length) (hroom : c < ms.length + 1) (hbase : base ≤ w.heap.size) :
    Calls Tryz.prog 119 #[.slice (some ⟨g, 0, none⟩) ms.length c, .int .i64 (i : Int), .slice (some ⟨vb, 0, none⟩) 1 1] w (InsQI w base (.slice (some ⟨g, 0, none⟩) ms.length c) (ms.take i ++ x :: ms.drop i)) := by
  have hnc : ms.length ≤ c := by
    rcases h.2 with ⟨e, -⟩ | ⟨g', cap, cur, e, -, -, hnc, -⟩
    · cases e
    · cases e; exact hnc
  have hcell : ∀ j u, (fcells iCl ms)[j]? = some u → w.cell? ⟨g, j, none⟩ = some u := fun j u hu => by
    have := h.cells (g := g) rfl j u hu
    rwa [addr_add, Nat.zero_add] at this
  have hlen : (fcells iCl ms).length = ms.length * 1 := fcells_len elemI.len ms
  have hlt : (fcells iCl (ms.take i)).length = i := by rw [fcells_len elemI.len, List.length_take]; omega
  have hld : (fcells iCl (ms.drop i)).length = (ms.length - i) * 1 := by rw [fcells_len elemI.len, List.length_drop]
  have hsp := fcN_split ms i
  have hOld : Hid (∀ j u, (fcells iCl (ms.take i))[j]? = some u → w.cell? ⟨g, j, none⟩ = some u) := fun j u hu => hcell j u (by
    rw [hsp, List.getElem?_append_left (by rcases Nat.lt_or_ge j (fcells iCl (ms.take i)).length with h | h; exact h; rw [List.getElem?_eq_none h] at hu; cases hu)]
    exact hu)
  have hDrop : Hid (∀ j u, (fcells iCl (ms.drop i))[j]? = some u → w.cell? ⟨g, i + j, none⟩ = some u) := fun j u hu => hcell (i + j) u (by
    rw [hsp, List.getElem?_append_right (by omega), hlt, Nat.add_sub_cancel_left]
    exact hu)
  have hgw : g < w.heap.size := dCell_lt (hcell 0 _ (List.getElem?_eq_getElem (by omega)))
  have hvw : vb < w.heap.size := dCell_lt (hvs 0 _ rfl)
  have HVS := dH hvs
  have hmid := dH (fcN_mid ms x i)
  have hnew := dH (show (ms.take i ++ x :: ms.drop i).length = ms.length + 1 by simp; omega)
  have o1 := dH (fcells_one elemI (ms.drop i))
  have o2 : Hid (∀ u ∈ (iCl x), u.oneCell' = true) := elemI.one x
  have olen : (ms.take i).length = i := by rw [List.length_take]; omega
  have FIN : Hid (∀ w' G Z, w.grownBy w' none → w'.heap[w.heap.size]? = some (.cells (fcells iCl (ms.take i) ++ ((iCl x) ++ (fcells iCl (ms.drop i) ++ Z))).toArray 3 (0, 0)) → ms.length + 1 ≤ G → G ≤ 9223372036854775807 → Z.length = (G - (ms.length + 1)) * 1 → InsQI w base (.slice (some ⟨g, 0, none⟩) ms.length c) (ms.take i ++ x :: ms.drop i) (.returned (.slice (some ⟨w.heap.size, 0, none⟩) (ms.length + 1) G)) w') := fun w' G Z hg hrow hG hG2 hZ => by
    refine ⟨_, rfl, .inr ⟨by rw [fcells_len elemI.len], .inr ⟨w.heap.size, G, _, by rw [dU hnew], hbase, hrow, by rw [dU hnew]; exact hG, hG2, ?_, ?_⟩⟩, hg.but _, .inr fun k hk => ?_⟩
    · simp only [List.size_toArray, List.length_append, hlt, hld, hZ, show (iCl x).length = 1 from rfl]
      omega
    · rw [dU hmid, dU hnew]
      have e1 : (fcells iCl (ms.take i) ++ ((iCl x) ++ (fcells iCl (ms.drop i) ++ Z))) = (fcells iCl (ms.take i) ++ ((iCl x) ++ fcells iCl (ms.drop i))) ++ Z := by simp
      have e2 : (fcells iCl (ms.take i) ++ ((iCl x) ++ fcells iCl (ms.drop i))).length = (ms.length + 1) * 1 := by
        simp only [List.length_append, hlt, hld, show (iCl x).length = 1 from rfl]
        omega
      rw [e1, ← e2]
      exact List.take_left
    · have hG0 : G ≠ 0 := by omega
      simp [touch, hG0] at hk
      omega
  generalize InsQI w base (.slice (some ⟨g, 0, none⟩) ms.length c) (ms.take i ++ x :: ms.drop i) = Q at *
  have xl : (iCl x).length = 1 := rfl
  clear h hcell hvs hlen hsp hmid hnew
  generalize (iCl x) = XC at *
  generalize fcells iCl (ms.drop i) = DC at *
  generalize ms.length = n at *
  have hin : i ≤ n := by omega
  have hz1 : ¬ ((i : Int) = (n : Int)) := by omega
  have hz3 : (c : Int) < (n : Int) + 1 := by omega
  have hci : ¬ (c = i) := by omega
  have hkk : (n : Int) + 1 - (i : Int) = ((n + 1 - i : Nat) : Int) := by omega
  have hik : i + (n + 1 - i) = n + 1 := by omega
  go_enter Tryz.func119, Tryz.ntmps119
  go_wp2_with (first
    | (at_builtin; refine wp_growZI elemI Tryz.underlying3 rfl _ _ rfl g i c (n + 1 - i) (n + 1) hik (ms.take i) rfl rfl olen (dU hOld) (by omega) (by omega) (by omega) (by decide) ?_; intro W1 G Z ROW HR R1 G1 hGn hG63 hZl)
    | (refine wp_copyK rfl _ _ 24 24 rfl 3 1 elemI.under (by kernel_rfl) (by decide) _ _ _ _ _ _ rfl rfl w.heap.size (i) ROW 3 (dU R1) XC (by rw [show Nat.min 1 (n + 1 - i) = 1 from Nat.min_eq_left (by omega), xl]) (fun _ => ⟨rfl, _, rfl, fun j u hu => by rw [addr_add, Nat.zero_add]; exact (dU G1).cell (dU HVS j u hu) (by simp)⟩) (by rw [dU HR, List.length_append, hlt, dU hZl, xl]; omega) (dU o2) ?_; intro W2 R2 G2))
  have hmn : Nat.min (n - i) (n + 1 - (i + 1)) = n - i := by rw [show n + 1 - (i + 1) = n - i by omega]; exact Nat.min_self _
  have HM := dH hmn
  have hGi : ¬ (G = i + 1) := by omega
  have hb3 : (i : Int) ≤ (n : Int) := by omega
  have hw1 : IntKind.i64.wrap ((i : Int) + 1) = (i : Int) + 1 := by rw [IntKind.wrap_i64]; omega
  have hb1 : (0 : Int) ≤ (i : Int) + 1 := by omega
  have htn : ((i : Int) + 1).toNat = i + 1 := by omega
  clear hmn
  go_region_law (refine step_copyK rfl (.tmp 50) (.tmp 53) 24 24 rfl 3 1 elemI.under (by kernel_rfl) (by decide) (some ⟨w.heap.size, (i + 1), none⟩) (some ⟨g, i, none⟩) (n + 1 - (i + 1)) (G - (i + 1)) (n - i) (c - i) (by simp [Act.eval, Act.put]) (by simp [Act.eval, Act.put]) w.heap.size (i + 1) (splice ROW (i) XC) 3 (dU R2) DC (by rw [dU HM, hld]) (fun _ => ⟨rfl, _, rfl, fun j u hu => by rw [addr_add]; exact (dU G2).cell ((dU G1).cell (dU hDrop j u hu) (by simp)) (by simp; omega)⟩) (by rw [length_splice _ _ _ (by rw [dU HR, List.length_append, hlt, dU hZl, xl]; omega), dU HR, List.length_append, hlt, dU hZl, hld]; omega) (dU o1) ?_; intro W3 R3 G3)
  have F := dH (dU FIN W3 G ((Z.drop XC.length).drop DC.length) (grown_newI (grown_newI (dU G1) (dU G2) (Nat.le_refl _)) (grown_of_drewI (dU G3)) (Nat.le_refl _)) (by
    have e := dU R3
    have e2 := splice_growI (fcells iCl (ms.take i)) Z XC DC
    rw [hlt, xl, ← dU HR] at e2
    rw [e2, ← xl] at e
    exact e) hGn hG63 (by rw [List.length_drop, List.length_drop, dU hZl, hld, xl]; omega))
  clear HR R1 G1 R2 G2 R3 G3 hZl FIN
  go_wp2
  exact dU F
theorem overN_no (w : World) (vb g off lb cb : Nat) (tA tB : TypeId) (xs cur : Array Value) (hx : w.heap[vb]? = some (.cells xs tA (0, 0))) (hc : w.heap[g]? = some (.cells cur tB (0, 0))) (hne : vb ≠ g) (h0 : cur.size ≠ 0) :
    (callFunc 148 #[.slice (some ⟨vb, 0, none⟩) 1 1, .slice (some ⟨g, off, none⟩) lb cb]).run Tryz.prog w = .ok (.value (.bool false)) w := by
  have hs : (Tryz.prog.funcs[148]?).isSome = true := by kernel_rfl
  have hf : Tryz.prog.funcs[148]? = some ((Tryz.prog.funcs[148]?).get hs) := (Option.some_get hs).symm
  rw [run_callFunc_extern hf (by kernel_rfl) (by kernel_rfl) (by kernel_rfl) (e := Extern.SlicesOverlaps.overlaps #[24, 24] #[4]) (by kernel_rfl),
    Lib.run_overlaps_apart w 24 4 3 Tryz.underlying24 1 Tryz.sizeOf3 ⟨vb, 0, none⟩ ⟨g, off, none⟩ 1 1 lb cb hne tA tB xs.size cur.size (by simp [World.shape?, hx]) (by simp [World.shape?, hc]) h0 (by simp [World.frozen?, hx]) (by simp [World.frozen?, hx])]
  rfl
set_option maxHeartbeats 4000000 in
theorem insN_shift (g vb i c : Nat) (tA : TypeId) (ms : List Int) (x : Int) (w : World) (base : Nat) (cur : List Value) (hbg : base ≤ g) (hrow : w.heap[g]? = some (.cells cur.toArray 3 (0, 0))) (hcl : cur.length = c * 1) (htk : cur.take (ms.length * 1) = fcells iCl ms) (hcm : c ≤ 9223372036854775807)
    (hvs : w.heap[vb]? = some (.cells (iCl x).toArray tA (0, 0))) (hne : vb ≠ g) (hl : ms.length ≤ 1048576) (hi : i < ms.length) (hroom : ms.length + 1 ≤ c) (hbase : base ≤ w.heap.size) :
    Calls Tryz.prog 119 #[.slice (some ⟨g, 0, none⟩) ms.length c, .int .i64 (i : Int), .slice (some ⟨vb, 0, none⟩) 1 1] w (InsQI w base (.slice (some ⟨g, 0, none⟩) ms.length c) (ms.take i ++ x :: ms.drop i)) := by
  have hlen : (fcells iCl ms).length = ms.length * 1 := fcells_len elemI.len ms
  have hlt : (fcells iCl (ms.take i)).length = i := by rw [fcells_len elemI.len, List.length_take]; omega
  have hld : (fcells iCl (ms.drop i)).length = (ms.length - i) * 1 := by rw [fcells_len elemI.len, List.length_drop]
  have hsp := fcN_split ms i
  have hA : cur.take (i) = fcells iCl (ms.take i) := by
    have e : (cur.take (ms.length * 1)).take (i) = (fcells iCl ms).take (i) := by rw [htk]
    rw [List.take_take, show min (i) (ms.length * 1) = i by omega, hsp, List.take_left' hlt] at e
    exact e
  have HC : Hid (cur = fcells iCl (ms.take i) ++ ((cur.drop (i)).take 1 ++ (cur.drop (i)).drop 1)) := by
    show _ = _
    rw [List.take_append_drop, ← hA, List.take_append_drop]
  have hDrop : Hid (∀ j u, (fcells iCl (ms.drop i))[j]? = some u → w.cell? ⟨g, i + j, none⟩ = some u) := fun j u hu => by
    have hj : j < (ms.length - i) * 1 := by
      rw [← hld]
      rcases Nat.lt_or_ge j (fcells iCl (ms.drop i)).length with h | h
      · exact h
      · rw [List.getElem?_eq_none h] at hu; cases hu
    have e : (cur.take (ms.length * 1))[i + j]? = some u := by
      rw [htk, hsp, List.getElem?_append_right (by omega), hlt, Nat.add_sub_cancel_left]
      exact hu
    rw [List.getElem?_take, if_pos (by omega)] at e
    simp only [World.cell?, hrow]
    simpa using e
  have HM4 := dH (show ((cur.drop (i)).take 1).length = 1 by rw [List.length_take, List.length_drop, hcl]; omega)
  have HZ4 := dH (show ((cur.drop (i)).drop 1).length = (c - i - 1) * 1 by rw [List.length_drop, List.length_drop, hcl]; omega)
  generalize (cur.drop (i)).take 1 = M at *
  generalize (cur.drop (i)).drop 1 = Z at *
  have HOV := dH fun off lb cb => overN_no w vb g off lb cb tA 3 _ _ hvs hrow hne (by rw [List.size_toArray, hcl]; omega)
  have HV : Hid (∀ j u, (iCl x)[j]? = some u → w.cell? ⟨vb, j, none⟩ = some u) := fun j u hu => by
    simp only [World.cell?, hvs]
    simpa using hu
  have hmid := dH (fcN_mid ms x i)
  have hnew := dH (show (ms.take i ++ x :: ms.drop i).length = ms.length + 1 by simp; omega)
  have o1 := dH (fcells_one elemI (ms.drop i))
  have o2 : Hid (∀ u ∈ (iCl x), u.oneCell' = true) := elemI.one x
  have FIN : Hid (∀ w' Z, w.grownBy w' (some g) → w'.heap[g]? = some (.cells (fcells iCl (ms.take i) ++ ((iCl x) ++ (fcells iCl (ms.drop i) ++ Z))).toArray 3 (0, 0)) → Z.length = (c - (ms.length + 1)) * 1 → InsQI w base (.slice (some ⟨g, 0, none⟩) ms.length c) (ms.take i ++ x :: ms.drop i) (.returned (.slice (some ⟨g, 0, none⟩) (ms.length + 1) c)) w') := fun w' Z hg hrow hZ => by
    have hc0 : c ≠ 0 := by omega
    refine ⟨_, rfl, .inr ⟨by rw [fcells_len elemI.len], .inr ⟨g, c, _, by rw [dU hnew], hbg, hrow, by rw [dU hnew]; exact hroom, hcm, ?_, ?_⟩⟩, by simpa [touch, hc0] using hg, .inl (by simp [touch, hc0])⟩
    · simp only [List.size_toArray, List.length_append, hlt, hld, hZ, show (iCl x).length = 1 from rfl]
      omega
    · rw [dU hmid, dU hnew]
      have e1 : (fcells iCl (ms.take i) ++ ((iCl x) ++ (fcells iCl (ms.drop i) ++ Z))) = (fcells iCl (ms.take i) ++ ((iCl x) ++ fcells iCl (ms.drop i))) ++ Z := by simp
      have e2 : (fcells iCl (ms.take i) ++ ((iCl x) ++ fcells iCl (ms.drop i))).length = (ms.length + 1) * 1 := by
        simp only [List.length_append, hlt, hld, show (iCl x).length = 1 from rfl]
        omega
      rw [e1, ← e2]
      exact List.take_left
  generalize InsQI w base (.slice (some ⟨g, 0, none⟩) ms.length c) (ms.take i ++ x :: ms.drop i) = Q at *
  have xl : (iCl x).length = 1 := rfl
  have HR := dH hrow
  clear hlen hsp hmid hnew hvs hA htk hrow
  generalize (iCl x) = XC at *
  generalize fcells iCl (ms.drop i) = DC at *
  generalize ms.length = n at *
  have hin : i ≤ n := by omega
  have hz1 : ¬ ((i : Int) = (n : Int)) := by omega
  have hz3 : ¬ ((c : Int) < (n : Int) + 1) := by omega
  have hci : ¬ (c = i) := by omega
  have hci1 : ¬ (c = i + 1) := by omega
  have hb3 : (i : Int) ≤ (n : Int) := by omega
  have hb4 : (n : Int) + 1 ≤ (c : Int) := by omega
  have hw1 : IntKind.i64.wrap ((i : Int) + 1) = (i : Int) + 1 := by rw [IntKind.wrap_i64]; omega
  have hw2 : IntKind.i64.wrap ((n : Int) + 1) = (n : Int) + 1 := by rw [IntKind.wrap_i64]; omega
  have hb1 : (0 : Int) ≤ (i : Int) + 1 := by omega
  have hb5 : (0 : Int) ≤ (n : Int) + 1 := by omega
  have hb6 : (i : Int) ≤ (n : Int) + 1 := by omega
  have htn : ((i : Int) + 1).toNat = i + 1 := by omega
  have htn2 : ((n : Int) + 1).toNat = n + 1 := by omega
  have hov := dU HOV
  go_enter Tryz.func119, Tryz.ntmps119
  go_wp2_with (simp only [hov])
  have hmn : Nat.min (n + 1 - i) (n + 1 - (i + 1)) = n - i := by rw [show n + 1 - (i + 1) = n - i by omega]; exact Nat.min_eq_right (by omega)
  have HM := dH hmn
  clear hmn hov
  go_region_law (refine step_copyK rfl (.tmp 73) (.tmp 76) 24 24 rfl 3 1 elemI.under (by kernel_rfl) (by decide) (some ⟨g, (i + 1), none⟩) (some ⟨g, i, none⟩) (n + 1 - (i + 1)) (c - (i + 1)) (n + 1 - i) (c - i) (by simp [Act.eval, Act.put]) (by simp [Act.eval, Act.put]) g (i + 1) cur 3 (dU HR) DC (by rw [dU HM, hld]) (fun _ => ⟨rfl, _, rfl, fun j u hu => by rw [addr_add]; exact dU hDrop j u hu⟩) (by rw [hcl, hld]; omega) (dU o1) ?_; intro W2 R2 G2)
  go_wp2_with (refine wp_copyK rfl _ _ 24 24 rfl 3 1 elemI.under (by kernel_rfl) (by decide) _ _ _ _ _ _ rfl rfl g (i) (splice cur (i + 1) DC) 3 (dU R2) XC (by rw [show Nat.min 1 (n + 1 - i) = 1 from Nat.min_eq_left (by omega), xl]) (fun _ => ⟨rfl, _, rfl, fun j u hu => by rw [addr_add, Nat.zero_add]; exact (grown_of_drewI (dU G2)).cell (dU HV j u hu) (by simpa using hne)⟩) (by rw [length_splice _ _ _ (by rw [hcl, hld]; omega), hcl, xl]; omega) (dU o2) ?_; intro W3 R3 G3
               have F := dH (dU FIN W3 (Z.drop DC.length) (grownR_trans (grown_of_drewI (dU G2)) (dU G3)) (by
                 have e := dU R3
                 have e2 := splice_shiftI (fcells iCl (ms.take i)) M Z XC DC (by rw [xl, dU HM4])
                 rw [← dU HC, hlt, dU HM4] at e2
                 rw [e2] at e
                 exact e) (by rw [List.length_drop, dU HZ4, hld]; omega))
               clear R2 G2 R3 G3)
  exact dU F
theorem insN_any (v : Value) (ms : List Int) (x : Int) (w : World) (base i vb : Nat) (tA : TypeId) (h : ApI w base v ms) (hvs : w.heap[vb]? = some (.cells (iCl x).toArray tA (0, 0))) (hne : touch v ≠ some vb) (hl : ms.length ≤ 1048576) (hi : i ≤ ms.length) (hbase : base ≤ w.heap.size) :
    Calls Tryz.prog 119 #[v, .int .i64 (i : Int), .slice (some ⟨vb, 0, none⟩) 1 1] w (InsQI w base v (ms.take i ++ x :: ms.drop i)) := by
  have hcell : ∀ j u, (iCl x)[j]? = some u → w.cell? ⟨vb, j, none⟩ = some u := fun j u hu => by
    simp only [World.cell?, hvs]
    simpa using hu
  rcases Nat.eq_or_lt_of_le hi with rfl | hi
  · have e := insN_end v (.slice (some ⟨vb, 0, none⟩) 1 1) ms x w base h ⟨by simp, _, 1, rfl, by simp, .inr ⟨vb, 0, rfl, fun i hi j u hu => by
      obtain rfl : i = 0 := by simp at hi; omega
      simpa using hcell j u hu⟩⟩ hl hbase
    rw [List.take_length, List.drop_length]
    exact e
  · rcases h with ⟨rfl, a, rfl⟩ | h
    · simp at hi
    · rcases h.2 with ⟨rfl, h0⟩ | ⟨g, c, cur, rfl, hb, hg, hnc, hcm, hcs, htk⟩
      · omega
      · by_cases hroom : ms.length + 1 ≤ c
        · have hc0 : c ≠ 0 := by omega
          refine insN_shift g vb i c tA ms x w base cur.toList hb (by simpa using hg) (by simpa using hcs) htk hcm hvs (fun e => hne (by simp [touch, hc0, e])) hl hi hroom hbase
        · exact insN_grow g vb i c ms x w base h hcell hl hi (by omega) hbase
end Go.Proofs.YtjkjmapibcfcdaaGreat
