/- Several texts in one: ImFb, ImFc, ImFh. -/
import Derived.Test.YtjbfpmackocgnaaGreatCpP
import Derived.Test.YtjbfpmackocgnaaGreatGbG
import Derived.Lib.AppendZerosOnto
import Derived.Lib.Overlaps
import Derived.Deep.RegionLaw
import Derived.Deep.RegionHeld3
import Derived.Test.YtjbfpmackocgnaaGreatGbI
import Derived.Test.YtjbfpmackocgnaaGreatGbE
import Derived.Deep.RegionWith
namespace Go.Proofs.YtjbfpmackocgnaaGreat
open Go.ChangeShapes Go.WideShapes Go.ChangeAt Go.RowKit
set_option linter.unusedVariables false
set_option linter.unusedSimpArgs false
set_option maxRecDepth 100000

/-- What is spliced in. -/
theorem splice_at {α : Type} (A Z B : List α) : splice (A ++ Z) A.length B = A ++ (B ++ Z.drop B.length) := by
  unfold splice
  rw [List.take_left, List.drop_append]
  have e : A.length + B.length - A.length = B.length := by omega
  rw [e, List.drop_eq_nil_of_le (by omega)]
  simp
theorem splice_grow {α : Type} (A Z B D : List α) : splice (splice (A ++ Z) A.length B) (A.length + B.length) D = A ++ (B ++ (D ++ (Z.drop B.length).drop D.length)) := by
  rw [splice_at, ← List.append_assoc]
  have := splice_at (A ++ B) (Z.drop B.length) D
  rw [List.length_append] at this
  rw [this, List.append_assoc]
theorem splice_shift {α : Type} (A M Z B D : List α) (h : B.length = M.length) : splice (splice (A ++ (M ++ Z)) (A.length + M.length) D) A.length B = A ++ (B ++ (D ++ Z.drop D.length)) := by
  have h1 := splice_at (A ++ M) Z D
  rw [List.length_append, List.append_assoc] at h1
  rw [h1, List.append_assoc, splice_at, h, List.drop_left]
theorem elemF : Elem (α := Ent) 36 121 (.agg #[.int .i64 0, .int .i64 0, .bool false, .string ⟨#[]⟩]) 4 40 Ent.cl where
  under := Tryz.underlying121
  info := elemE.info
  zcells := elemE.zcells
  pos := by decide
  len := fun _ => rfl
  one := elemE.one
theorem append_types {TS T2 T : TypeId} (h1 : Tryz.prog.underlying TS = some (.slice T)) (h2 : Tryz.prog.underlying T2 = some (.slice T)) (ty : TypeId) (a b : Option Addr) (n c m d : Nat) (w : World) :
    (Builtin.append_ #[TS, T2] ty #[.slice a n c, .slice b m d]).run Tryz.prog w = (Builtin.append_ #[TS, TS] ty #[.slice a n c, .slice b m d]).run Tryz.prog w := by
  cases hq : Tryz.prog.info? T with
  | none => simp [Builtin.append_, run_underlying h1, run_underlying h2, sizeOf, typeInfo, hq]
  | some i => simp [Builtin.append_, run_underlying h1, run_underlying h2, sizeOf, typeInfo, hq]
section
variable {w : World} {ops : Array Oper} {rest : List Oper} {o : Oper} {a : Act} {Q : Exit → Act → World → Prop}
/-- append where the two types differ by their name. -/
theorem wp_apT {α : Type} {T TS T2 : TypeId} {z : Value} {sz bytes : Nat} {cl : α → List Value} (E : Elem T TS z sz bytes cl) (h2 : Tryz.prog.underlying T2 = some (.slice T)) (hgd : o.guard = none) (s x : Operand) (ho : o.op = .call { callee := .builtin .append, args := #[s, x], argTypes := #[TS, T2] })
    (base : Nat) (v : Value) (ms : List α) (hs : a.eval s = v) (hown : ApR T sz cl w base v ms) (sv : Value) (ns : List α) (hx : a.eval x = sv) (hsrc : Rw sz cl w sv ns)
    (hb : (ms.length + ns.length) * bytes ≤ 140737488355328) (hl : ms.length + ns.length ≤ 9223372036854775807) (hbase : base ≤ w.heap.size)
    (h : ∀ v' w', ApR T sz cl w' base v' (ms ++ ns) → w.grownBy w' (touch v) → (touch v' = touch v ∨ ∀ k, touch v' = some k → w.heap.size ≤ k) → wpList Tryz.prog ops Q rest (a.put o.dst v') w') : wpList Tryz.prog ops Q (o :: rest) a w := by
  refine wpList_plain hgd fun K' hK' => ?_
  obtain ⟨v', w', hrun, h1, h2', h3⟩ := run_apR E o.type hown sv hsrc hb hl hbase
  obtain ⟨va, vc, rfl⟩ := ApR.slice E hown
  obtain ⟨sa, sc, rfl⟩ : ∃ sa sc, sv = .slice sa ns.length sc := by
    obtain ⟨-, sa, sc, rfl, -⟩ := hsrc
    exact ⟨sa, sc, rfl⟩
  rw [← append_types E.under h2] at hrun
  unfold Oper.wp
  simp [execOp, ho, resolve, invoke, builtin, hs, hx, hrun, Result.andThen]
  exact hK' _ _ (h v' w' h1 h2' h3)
/-- append of as many zeros, where there is no room. -/
theorem wp_growZ {α : Type} {T TS tn : TypeId} {z : Value} {sz bytes : Nat} {cl : α → List Value} (E : Elem T TS z sz bytes cl) (htn : Tryz.prog.underlying tn = some (.int .i64)) (hgd : o.guard = none) (s x : Operand) (ho : o.op = .call { callee := .builtin .append, args := #[s, x], argTypes := #[TS, tn] })
    (g i c k N : Nat) (hN : i + k = N) (olds : List α) (hs : a.eval s = .slice (some ⟨g, 0, none⟩) i c) (hx : a.eval x = .int .i64 (k : Int)) (hol : olds.length = i) (hold : ∀ j u, (fcells cl olds)[j]? = some u → w.cell? ⟨g, j, none⟩ = some u)
    (h0 : 0 < k) (hg : c < i + k) (hb : (i + k) * bytes ≤ 140737488355328) (hb2 : 0 < bytes)
    (h : ∀ w' G Z ROW, Hid (ROW = fcells cl olds ++ Z) → Hid (w'.heap[w.heap.size]? = some (.cells ROW.toArray T (0, 0))) → Hid (w.grownBy w' none) → N ≤ G → G ≤ 9223372036854775807 → Hid (Z.length = (G - i) * sz) → wpList Tryz.prog ops Q rest (a.put o.dst (.slice (some ⟨w.heap.size, 0, none⟩) N G)) w') : wpList Tryz.prog ops Q (o :: rest) a w := by
  subst hN
  refine wpList_plain hgd fun K' hK' => ?_
  obtain ⟨i0, hi0, hz0, hzs, hzb⟩ := info_parts E.info
  have hik : i + k ≤ 140737488355328 := Nat.le_trans (Nat.le_mul_of_pos_right _ hb2) hb
  have hk : k * bytes ≤ 140737488355328 := Nat.le_trans (Nat.mul_le_mul_right _ (by omega)) hb
  have hfc : (Builtin.firstCells i0.size i (.slice (some ⟨g, 0, none⟩) i c)).run Tryz.prog w.drew = .ok (fcells cl olds).toArray w.drew := by
    rw [hzs]
    exact run_firstCells_some w.drew sz i ⟨g, 0, none⟩ i c (fcells cl olds) (by rw [fcells_len E.len, hol]) (fun j u hu => by
      rw [addr_add, Nat.zero_add]
      exact hold j u hu)
  have hr := Lib.run_append_grow_zeros (P := Tryz.prog) w TS tn o.type T i0 _ .i64 .i64 E.under htn hi0 hz0 (some ⟨g, 0, none⟩) i c (fcells cl olds) hfc k h0 (by rw [hzs]; exact E.pos) hg (by omega) (by rw [hzb]; omega) (by rw [hzb]; exact growslice_fits hg hb)
  have hGn := grownCap_ge w (i + k) c T
  have hG63 := grownCap_le_maxLen w (i + k) c T (by unfold maxLen; omega)
  unfold maxLen at hG63
  generalize hG : grownCap w (i + k) c T = G at *
  have hZ : ((Builtin.zeroCells z.cells k).toList ++ (Builtin.zeroCells z.cells (G - (i + k))).toList).length = (G - i) * sz := by
    rw [List.length_append, Array.length_toList, Array.length_toList, zeroCells_size, zeroCells_size, E.zcells, ← Nat.add_mul]
    congr 1
    omega
  unfold Oper.wp
  simp [execOp, ho, resolve, invoke, builtin, hs, hx, hr, Result.andThen]
  refine hK' _ _ (h _ G ((Builtin.zeroCells z.cells k).toList ++ (Builtin.zeroCells z.cells (G - (i + k))).toList) _ (show _ = _ from rfl) ?_ ?_ hGn hG63 hZ)
  · show _ = _
    have e1 : ((fcells cl olds).toArray ++ (Builtin.zeroCells z.cells k ++ Builtin.zeroCells z.cells (G - (i + k)))) = (fcells cl olds ++ ((Builtin.zeroCells z.cells k).toList ++ (Builtin.zeroCells z.cells (G - (i + k))).toList)).toArray := by apply Array.ext'; simp
    rw [e1]
    exact (MapKept.heap_alloc w.drew _).1
  · exact ⟨rfl, rfl, rfl, by simp, fun k' hk' _ => (MapKept.heap_alloc w.drew _).2 k' hk'⟩
end
end Go.Proofs.YtjbfpmackocgnaaGreat
namespace Go.Proofs.YtjbfpmackocgnaaGreat
open Go.ChangeShapes Go.WideShapes Go.ChangeAt Go.RowKit
set_option linter.unusedVariables false
set_option linter.unusedSimpArgs false
set_option maxRecDepth 100000

/-- What an insertion leaves. -/
def InsQ (w : World) (base : Nat) (v : Value) (ns : List Ent) (r : Ending) (w' : World) : Prop :=
  ∃ v', r = .returned v' ∧ ApE w' base v' ns ∧ w.grownBy w' (touch v) ∧ (touch v' = touch v ∨ ∀ k, touch v' = some k → w.heap.size ≤ k)
set_option maxHeartbeats 4000000 in
/-- At the end. -/
theorem insert_end (v sv : Value) (ms : List Ent) (x : Ent) (w : World) (base : Nat) (h : ApE w base v ms) (hs : Rw 4 Ent.cl w sv [x]) (hl : ms.length ≤ 1048576) (hbase : base ≤ w.heap.size) :
    Calls Tryz.prog 137 #[v, .int .i64 (ms.length : Int), sv] w (InsQ w base v (ms ++ [x])) := by
  have H := dHide h
  have HS := dHide hs
  obtain ⟨a, c, rfl⟩ := ApR.slice elemE h
  have hnc : ms.length ≤ c ∧ c ≤ 9223372036854775807 := by
    obtain ⟨-, a', c', e, hc, -⟩ := ApR.own elemE h
    cases e
    exact hc
  have ha : ms.length = 0 ∨ ∃ ad, a = some ad := by
    obtain ⟨-, a', c', e, -, hc⟩ := ApR.own elemE h
    cases e
    rcases hc with hc | ⟨b, off, rfl, -⟩
    · exact .inl (by simp [hc])
    · exact .inr ⟨_, rfl⟩
  obtain ⟨-, sa, sc, rfl, hsc, -⟩ := hs
  have FIN : Hid (∀ v' w', ApE w' base v' (ms ++ [x]) → w.grownBy w' (touch (.slice a ms.length c)) → (touch v' = touch (.slice a ms.length c) ∨ ∀ k, touch v' = some k → w.heap.size ≤ k) → InsQ w base (.slice a ms.length c) (ms ++ [x]) (.returned v') w') := fun v' w' h1 h2 h3 => ⟨v', rfl, h1, h2, h3⟩
  generalize InsQ w base (.slice a ms.length c) (ms ++ [x]) = Q at *
  clear h
  simp only [List.length_singleton] at *
  cases a with
  | none =>
    have h0 : ms.length = 0 := by
      rcases ha with h | ⟨ad, h⟩
      · exact h
      · cases h
    go_enter Tryz.func137, Tryz.ntmps137
    go_wp2_with (at_builtin; refine wp_apT elemF Tryz.underlying27 rfl _ _ rfl base _ ms rfl (dUnhide H) _ [x] rfl (dUnhide HS) (by simp; omega) (by simp; omega) hbase ?_; intro v' w' h1 h2 h3; have F := dHide (dUnhide FIN _ _ h1 h2 h3); clear h1 h2 h3)
    all_goals exact dUnhide F
  | some ad =>
    go_enter Tryz.func137, Tryz.ntmps137
    go_wp2_with (at_builtin; refine wp_apT elemF Tryz.underlying27 rfl _ _ rfl base _ ms rfl (dUnhide H) _ [x] rfl (dUnhide HS) (by simp; omega) (by simp; omega) hbase ?_; intro v' w' h1 h2 h3; have F := dHide (dUnhide FIN _ _ h1 h2 h3); clear h1 h2 h3)
    all_goals exact dUnhide F
theorem grown_trans {w w1 w2 : World} {r : Option Nat} (h1 : w.grownBy w1 r) (h2 : w1.grownBy w2 r) : w.grownBy w2 r :=
  ⟨h2.os.trans h1.os, h2.tape.trans h1.tape, h2.output.trans h1.output, Nat.le_trans h1.size h2.size, fun k hk hn => (h2.block k (Nat.lt_of_lt_of_le hk h1.size) hn).trans (h1.block k hk hn)⟩
theorem grown_new {w w1 w2 : World} {r : Option Nat} {g : Nat} (h1 : w.grownBy w1 r) (h2 : w1.grownBy w2 (some g)) (hg : w.heap.size ≤ g) : w.grownBy w2 r :=
  ⟨h2.os.trans h1.os, h2.tape.trans h1.tape, h2.output.trans h1.output, Nat.le_trans h1.size h2.size, fun k hk hn => (h2.block k (Nat.lt_of_lt_of_le hk h1.size) (by intro e; cases e; omega)).trans (h1.block k hk hn)⟩
theorem grown_of_drew {w w1 : World} {r : Option Nat} (h : w.drew.grownBy w1 r) : w.grownBy w1 r := ⟨h.os, h.tape, h.output, h.size, h.block⟩
theorem grown_drew {w w1 : World} {r : Option Nat} (h : w.grownBy w1 r) : w.grownBy w1.drew r := ⟨h.os, h.tape, h.output, h.size, h.block⟩
theorem fcells_split (ms : List Ent) (i : Nat) : fcells Ent.cl ms = fcells Ent.cl (ms.take i) ++ fcells Ent.cl (ms.drop i) := by rw [← fcells_app, List.take_append_drop]
theorem fcells_mid (ms : List Ent) (x : Ent) (i : Nat) : fcells Ent.cl (ms.take i ++ x :: ms.drop i) = fcells Ent.cl (ms.take i) ++ (x.cl ++ fcells Ent.cl (ms.drop i)) := by rw [fcells_app]; rfl
set_option maxHeartbeats 4000000 in
/-- Where there is no room. -/
theorem insert_grow (g vb i c : Nat) (ms : List Ent) (x : Ent) (w : World) (base : Nat) (h : w.ownsRow base 36 4 (.slice (some ⟨g, 0, none⟩) ms.length c) ms.length (fcells Ent.cl ms)) (hvs : ∀ j u, x.cl[j]? = some u → w.cell? ⟨vb, j, none⟩ = some u) (hl : ms.length ≤ 1048576) (hi : i < ms.length) (hroom : c < ms.length + 1) (hbase : base ≤ w.heap.size) :
    Calls Tryz.prog 137 #[.slice (some ⟨g, 0, none⟩) ms.length c, .int .i64 (i : Int), .slice (some ⟨vb, 0, none⟩) 1 1] w (InsQ w base (.slice (some ⟨g, 0, none⟩) ms.length c) (ms.take i ++ x :: ms.drop i)) := by
  have hnc : ms.length ≤ c := by
    rcases h.2 with ⟨e, -⟩ | ⟨g', cap, cur, e, -, -, hnc, -⟩
    · cases e
    · cases e; exact hnc
  have hcell : ∀ j u, (fcells Ent.cl ms)[j]? = some u → w.cell? ⟨g, j, none⟩ = some u := fun j u hu => by
    have := h.cells (g := g) rfl j u hu
    rwa [addr_add, Nat.zero_add] at this
  have hlen : (fcells Ent.cl ms).length = ms.length * 4 := fcells_len elemE.len ms
  have hlt : (fcells Ent.cl (ms.take i)).length = i * 4 := by rw [fcells_len elemE.len, List.length_take]; congr 1; omega
  have hld : (fcells Ent.cl (ms.drop i)).length = (ms.length - i) * 4 := by rw [fcells_len elemE.len, List.length_drop]
  have hsp := fcells_split ms i
  have hOld : Hid (∀ j u, (fcells Ent.cl (ms.take i))[j]? = some u → w.cell? ⟨g, j, none⟩ = some u) := fun j u hu => hcell j u (by
    rw [hsp, List.getElem?_append_left (by rcases Nat.lt_or_ge j (fcells Ent.cl (ms.take i)).length with h | h; exact h; rw [List.getElem?_eq_none h] at hu; cases hu)]
    exact hu)
  have hDrop : Hid (∀ j u, (fcells Ent.cl (ms.drop i))[j]? = some u → w.cell? ⟨g, i * 4 + j, none⟩ = some u) := fun j u hu => hcell (i * 4 + j) u (by
    rw [hsp, List.getElem?_append_right (by omega), hlt, Nat.add_sub_cancel_left]
    exact hu)
  have hgw : g < w.heap.size := dCell_lt (hcell 0 _ (List.getElem?_eq_getElem (by omega)))
  have hvw : vb < w.heap.size := dCell_lt (hvs 0 _ rfl)
  have HVS := dHide hvs
  have hmid := dHide (fcells_mid ms x i)
  have hnew := dHide (show (ms.take i ++ x :: ms.drop i).length = ms.length + 1 by simp; omega)
  have o1 := dHide (fcells_one elemE (ms.drop i))
  have o2 : Hid (∀ u ∈ x.cl, u.oneCell' = true) := elemE.one x
  have olen : (ms.take i).length = i := by rw [List.length_take]; omega
  have FIN : Hid (∀ w' G Z, w.grownBy w' none → w'.heap[w.heap.size]? = some (.cells (fcells Ent.cl (ms.take i) ++ (x.cl ++ (fcells Ent.cl (ms.drop i) ++ Z))).toArray 36 (0, 0)) → ms.length + 1 ≤ G → G ≤ 9223372036854775807 → Z.length = (G - (ms.length + 1)) * 4 → InsQ w base (.slice (some ⟨g, 0, none⟩) ms.length c) (ms.take i ++ x :: ms.drop i) (.returned (.slice (some ⟨w.heap.size, 0, none⟩) (ms.length + 1) G)) w') := fun w' G Z hg hrow hG hG2 hZ => by
    refine ⟨_, rfl, .inr ⟨by rw [fcells_len elemE.len], .inr ⟨w.heap.size, G, _, by rw [dUnhide hnew], hbase, hrow, by rw [dUnhide hnew]; exact hG, hG2, ?_, ?_⟩⟩, hg.but _, .inr fun k hk => ?_⟩
    · simp only [List.size_toArray, List.length_append, hlt, hld, hZ, show x.cl.length = 4 from rfl]
      omega
    · rw [dUnhide hmid, dUnhide hnew]
      have e1 : (fcells Ent.cl (ms.take i) ++ (x.cl ++ (fcells Ent.cl (ms.drop i) ++ Z))) = (fcells Ent.cl (ms.take i) ++ (x.cl ++ fcells Ent.cl (ms.drop i))) ++ Z := by simp
      have e2 : (fcells Ent.cl (ms.take i) ++ (x.cl ++ fcells Ent.cl (ms.drop i))).length = (ms.length + 1) * 4 := by
        simp only [List.length_append, hlt, hld, show x.cl.length = 4 from rfl]
        omega
      rw [e1, ← e2]
      exact List.take_left
    · have hG0 : G ≠ 0 := by omega
      simp [touch, hG0] at hk
      omega
  generalize InsQ w base (.slice (some ⟨g, 0, none⟩) ms.length c) (ms.take i ++ x :: ms.drop i) = Q at *
  have xl : x.cl.length = 4 := rfl
  clear h hcell hvs hlen hsp hmid hnew
  generalize x.cl = XC at *
  generalize fcells Ent.cl (ms.drop i) = DC at *
  generalize ms.length = n at *
  have hin : i ≤ n := by omega
  have hz1 : ¬ ((i : Int) = (n : Int)) := by omega
  have hz3 : (c : Int) < (n : Int) + 1 := by omega
  have hci : ¬ (c = i) := by omega
  have hkk : (n : Int) + 1 - (i : Int) = ((n + 1 - i : Nat) : Int) := by omega
  have hik : i + (n + 1 - i) = n + 1 := by omega
  go_enter Tryz.func137, Tryz.ntmps137
  go_wp2_with (first
    | (at_builtin; refine wp_growZ elemF Tryz.underlying3 rfl _ _ rfl g i c (n + 1 - i) (n + 1) hik (ms.take i) rfl rfl olen (dUnhide hOld) (by omega) (by omega) (by omega) (by decide) ?_; intro W1 G Z ROW HR R1 G1 hGn hG63 hZl)
    | (refine wp_copyK rfl _ _ 121 27 rfl 36 4 elemF.under (by kernel_rfl) (by decide) _ _ _ _ _ _ rfl rfl w.heap.size (i * 4) ROW 36 (dUnhide R1) XC (by rw [show Nat.min 1 (n + 1 - i) = 1 from Nat.min_eq_left (by omega), xl]) (fun _ => ⟨rfl, _, rfl, fun j u hu => by rw [addr_add, Nat.zero_add]; exact (dUnhide G1).cell (dUnhide HVS j u hu) (by simp)⟩) (by rw [dUnhide HR, List.length_append, hlt, dUnhide hZl, xl]; omega) (dUnhide o2) ?_; intro W2 R2 G2))
  have hmn : Nat.min (n - i) (n + 1 - (i + 1)) = n - i := by rw [show n + 1 - (i + 1) = n - i by omega]; exact Nat.min_self _
  have HM := dHide hmn
  have hGi : ¬ (G = i + 1) := by omega
  have hb3 : (i : Int) ≤ (n : Int) := by omega
  have hw1 : IntKind.i64.wrap ((i : Int) + 1) = (i : Int) + 1 := by rw [IntKind.wrap_i64]; omega
  have hb1 : (0 : Int) ≤ (i : Int) + 1 := by omega
  have htn : ((i : Int) + 1).toNat = i + 1 := by omega
  clear hmn
  go_region_law (refine step_copyK rfl (.tmp 50) (.tmp 53) 121 121 rfl 36 4 elemF.under (by kernel_rfl) (by decide) (some ⟨w.heap.size, (i + 1) * 4, none⟩) (some ⟨g, i * 4, none⟩) (n + 1 - (i + 1)) (G - (i + 1)) (n - i) (c - i) (by simp [Act.eval, Act.put]) (by simp [Act.eval, Act.put]) w.heap.size (i * 4 + 4) (splice ROW (i * 4) XC) 36 (dUnhide R2) DC (by rw [dUnhide HM, hld]) (fun _ => ⟨by rw [Nat.add_mul], _, rfl, fun j u hu => by rw [addr_add]; exact (dUnhide G2).cell ((dUnhide G1).cell (dUnhide hDrop j u hu) (by simp)) (by simp; omega)⟩) (by rw [length_splice _ _ _ (by rw [dUnhide HR, List.length_append, hlt, dUnhide hZl, xl]; omega), dUnhide HR, List.length_append, hlt, dUnhide hZl, hld]; omega) (dUnhide o1) ?_; intro W3 R3 G3)
  have F := dHide (dUnhide FIN W3 G ((Z.drop XC.length).drop DC.length) (grown_new (grown_new (dUnhide G1) (dUnhide G2) (Nat.le_refl _)) (grown_of_drew (dUnhide G3)) (Nat.le_refl _)) (by
    have e := dUnhide R3
    have e2 := splice_grow (fcells Ent.cl (ms.take i)) Z XC DC
    rw [hlt, xl, ← dUnhide HR] at e2
    rw [e2, ← xl] at e
    exact e) hGn hG63 (by rw [List.length_drop, List.length_drop, dUnhide hZl, hld, xl]; omega))
  clear HR R1 G1 R2 G2 R3 G3 hZl FIN
  go_wp2
  exact dUnhide F
theorem overlaps_no (w : World) (vb g off lb cb : Nat) (tA tB : TypeId) (xs cur : Array Value) (hx : w.heap[vb]? = some (.cells xs tA (0, 0))) (hc : w.heap[g]? = some (.cells cur tB (0, 0))) (hne : vb ≠ g) (h0 : cur.size ≠ 0) :
    (callFunc 156 #[.slice (some ⟨vb, 0, none⟩) 1 1, .slice (some ⟨g, off, none⟩) lb cb]).run Tryz.prog w = .ok (.value (.bool false)) w := by
  have hs : (Tryz.prog.funcs[156]?).isSome = true := by kernel_rfl
  have hf : Tryz.prog.funcs[156]? = some ((Tryz.prog.funcs[156]?).get hs) := (Option.some_get hs).symm
  rw [run_callFunc_extern hf (by kernel_rfl) (by kernel_rfl) (by kernel_rfl) (e := Extern.SlicesOverlaps.overlaps #[27, 27] #[4]) (by kernel_rfl),
    Lib.run_overlaps_apart w 27 4 36 Tryz.underlying27 4 Tryz.sizeOf36 ⟨vb, 0, none⟩ ⟨g, off, none⟩ 1 1 lb cb hne tA tB xs.size cur.size (by simp [World.shape?, hx]) (by simp [World.shape?, hc]) h0 (by simp [World.frozen?, hx]) (by simp [World.frozen?, hx])]
  rfl
set_option maxHeartbeats 4000000 in
/-- Where there is room. -/
theorem insert_shift (g vb i c : Nat) (tA : TypeId) (ms : List Ent) (x : Ent) (w : World) (base : Nat) (cur : List Value) (hbg : base ≤ g) (hrow : w.heap[g]? = some (.cells cur.toArray 36 (0, 0))) (hcl : cur.length = c * 4) (htk : cur.take (ms.length * 4) = fcells Ent.cl ms) (hcm : c ≤ 9223372036854775807)
    (hvs : w.heap[vb]? = some (.cells x.cl.toArray tA (0, 0))) (hne : vb ≠ g) (hl : ms.length ≤ 1048576) (hi : i < ms.length) (hroom : ms.length + 1 ≤ c) (hbase : base ≤ w.heap.size) :
    Calls Tryz.prog 137 #[.slice (some ⟨g, 0, none⟩) ms.length c, .int .i64 (i : Int), .slice (some ⟨vb, 0, none⟩) 1 1] w (InsQ w base (.slice (some ⟨g, 0, none⟩) ms.length c) (ms.take i ++ x :: ms.drop i)) := by
  have hlen : (fcells Ent.cl ms).length = ms.length * 4 := fcells_len elemE.len ms
  have hlt : (fcells Ent.cl (ms.take i)).length = i * 4 := by rw [fcells_len elemE.len, List.length_take]; congr 1; omega
  have hld : (fcells Ent.cl (ms.drop i)).length = (ms.length - i) * 4 := by rw [fcells_len elemE.len, List.length_drop]
  have hsp := fcells_split ms i
  have hA : cur.take (i * 4) = fcells Ent.cl (ms.take i) := by
    have e : (cur.take (ms.length * 4)).take (i * 4) = (fcells Ent.cl ms).take (i * 4) := by rw [htk]
    rw [List.take_take, show min (i * 4) (ms.length * 4) = i * 4 by omega, hsp, ← hlt, List.take_left] at e
    rw [← hlt]
    exact e
  have HC : Hid (cur = fcells Ent.cl (ms.take i) ++ ((cur.drop (i * 4)).take 4 ++ (cur.drop (i * 4)).drop 4)) := by
    show _ = _
    rw [List.take_append_drop, ← hA, List.take_append_drop]
  have hDrop : Hid (∀ j u, (fcells Ent.cl (ms.drop i))[j]? = some u → w.cell? ⟨g, i * 4 + j, none⟩ = some u) := fun j u hu => by
    have hj : j < (ms.length - i) * 4 := by
      rw [← hld]
      rcases Nat.lt_or_ge j (fcells Ent.cl (ms.drop i)).length with h | h
      · exact h
      · rw [List.getElem?_eq_none h] at hu; cases hu
    have e : (cur.take (ms.length * 4))[i * 4 + j]? = some u := by
      rw [htk, hsp, List.getElem?_append_right (by omega), hlt, Nat.add_sub_cancel_left]
      exact hu
    rw [List.getElem?_take, if_pos (by omega)] at e
    simp only [World.cell?, hrow]
    simpa using e
  have HM4 := dHide (show ((cur.drop (i * 4)).take 4).length = 4 by rw [List.length_take, List.length_drop, hcl]; omega)
  have HZ4 := dHide (show ((cur.drop (i * 4)).drop 4).length = (c - i - 1) * 4 by rw [List.length_drop, List.length_drop, hcl]; omega)
  generalize (cur.drop (i * 4)).take 4 = M at *
  generalize (cur.drop (i * 4)).drop 4 = Z at *
  have HOV := dHide fun off lb cb => overlaps_no w vb g off lb cb tA 36 _ _ hvs hrow hne (by rw [List.size_toArray, hcl]; omega)
  have HV : Hid (∀ j u, x.cl[j]? = some u → w.cell? ⟨vb, j, none⟩ = some u) := fun j u hu => by
    simp only [World.cell?, hvs]
    simpa using hu
  have hmid := dHide (fcells_mid ms x i)
  have hnew := dHide (show (ms.take i ++ x :: ms.drop i).length = ms.length + 1 by simp; omega)
  have o1 := dHide (fcells_one elemE (ms.drop i))
  have o2 : Hid (∀ u ∈ x.cl, u.oneCell' = true) := elemE.one x
  have FIN : Hid (∀ w' Z, w.grownBy w' (some g) → w'.heap[g]? = some (.cells (fcells Ent.cl (ms.take i) ++ (x.cl ++ (fcells Ent.cl (ms.drop i) ++ Z))).toArray 36 (0, 0)) → Z.length = (c - (ms.length + 1)) * 4 → InsQ w base (.slice (some ⟨g, 0, none⟩) ms.length c) (ms.take i ++ x :: ms.drop i) (.returned (.slice (some ⟨g, 0, none⟩) (ms.length + 1) c)) w') := fun w' Z hg hrow hZ => by
    have hc0 : c ≠ 0 := by omega
    refine ⟨_, rfl, .inr ⟨by rw [fcells_len elemE.len], .inr ⟨g, c, _, by rw [dUnhide hnew], hbg, hrow, by rw [dUnhide hnew]; exact hroom, hcm, ?_, ?_⟩⟩, by simpa [touch, hc0] using hg, .inl (by simp [touch, hc0])⟩
    · simp only [List.size_toArray, List.length_append, hlt, hld, hZ, show x.cl.length = 4 from rfl]
      omega
    · rw [dUnhide hmid, dUnhide hnew]
      have e1 : (fcells Ent.cl (ms.take i) ++ (x.cl ++ (fcells Ent.cl (ms.drop i) ++ Z))) = (fcells Ent.cl (ms.take i) ++ (x.cl ++ fcells Ent.cl (ms.drop i))) ++ Z := by simp
      have e2 : (fcells Ent.cl (ms.take i) ++ (x.cl ++ fcells Ent.cl (ms.drop i))).length = (ms.length + 1) * 4 := by
        simp only [List.length_append, hlt, hld, show x.cl.length = 4 from rfl]
        omega
      rw [e1, ← e2]
      exact List.take_left
  generalize InsQ w base (.slice (some ⟨g, 0, none⟩) ms.length c) (ms.take i ++ x :: ms.drop i) = Q at *
  have xl : x.cl.length = 4 := rfl
  have HR := dHide hrow
  clear hlen hsp hmid hnew hvs hA htk hrow
  generalize x.cl = XC at *
  generalize fcells Ent.cl (ms.drop i) = DC at *
  generalize ms.length = n at *
  have hin : i ≤ n := by omega
  have hz1 : ¬ ((i : Int) = (n : Int)) := by omega
  have hz3 : ¬ ((c : Int) < (n : Int) + 1) := by omega
  have hci : ¬ (c = i) := by omega
  have hci1 : ¬ (c = i + 1) := by omega
  have hb3 : (i : Int) ≤ (n : Int) := by omega
  have hb4 : (n : Int) + 1 ≤ (c : Int) := by omega
  have hw1 : IntKind.i64.wrap ((i : Int) + 1) = (i : Int) + 1 := by rw [IntKind.wrap_i64]; omega
  have hw2 : IntKind.i64.wrap ((n : Int) + 1) = (n : Int) + 1 := by rw [IntKind.wrap_i64]; omega
  have hb1 : (0 : Int) ≤ (i : Int) + 1 := by omega
  have hb5 : (0 : Int) ≤ (n : Int) + 1 := by omega
  have hb6 : (i : Int) ≤ (n : Int) + 1 := by omega
  have htn : ((i : Int) + 1).toNat = i + 1 := by omega
  have htn2 : ((n : Int) + 1).toNat = n + 1 := by omega
  have hov := dUnhide HOV
  go_enter Tryz.func137, Tryz.ntmps137
  go_wp2_with (simp only [hov])
  have hmn : Nat.min (n + 1 - i) (n + 1 - (i + 1)) = n - i := by rw [show n + 1 - (i + 1) = n - i by omega]; exact Nat.min_eq_right (by omega)
  have HM := dHide hmn
  clear hmn hov
  go_region_law (refine step_copyK rfl (.tmp 73) (.tmp 76) 121 121 rfl 36 4 elemF.under (by kernel_rfl) (by decide) (some ⟨g, (i + 1) * 4, none⟩) (some ⟨g, i * 4, none⟩) (n + 1 - (i + 1)) (c - (i + 1)) (n + 1 - i) (c - i) (by simp [Act.eval, Act.put]) (by simp [Act.eval, Act.put]) g (i * 4 + 4) cur 36 (dUnhide HR) DC (by rw [dUnhide HM, hld]) (fun _ => ⟨by rw [Nat.add_mul], _, rfl, fun j u hu => by rw [addr_add]; exact dUnhide hDrop j u hu⟩) (by rw [hcl, hld]; omega) (dUnhide o1) ?_; intro W2 R2 G2)
  go_wp2_with (refine wp_copyK rfl _ _ 121 27 rfl 36 4 elemF.under (by kernel_rfl) (by decide) _ _ _ _ _ _ rfl rfl g (i * 4) (splice cur (i * 4 + 4) DC) 36 (dUnhide R2) XC (by rw [show Nat.min 1 (n + 1 - i) = 1 from Nat.min_eq_left (by omega), xl]) (fun _ => ⟨rfl, _, rfl, fun j u hu => by rw [addr_add, Nat.zero_add]; exact (grown_of_drew (dUnhide G2)).cell (dUnhide HV j u hu) (by simpa using hne)⟩) (by rw [length_splice _ _ _ (by rw [hcl, hld]; omega), hcl, xl]; omega) (dUnhide o2) ?_; intro W3 R3 G3
               have F := dHide (dUnhide FIN W3 (Z.drop DC.length) (grown_trans (grown_of_drew (dUnhide G2)) (dUnhide G3)) (by
                 have e := dUnhide R3
                 have e2 := splice_shift (fcells Ent.cl (ms.take i)) M Z XC DC (by rw [xl, dUnhide HM4])
                 rw [← dUnhide HC, hlt, dUnhide HM4] at e2
                 rw [e2] at e
                 exact e) (by rw [List.length_drop, dUnhide HZ4, hld]; omega))
               clear R2 G2 R3 G3)
  exact dUnhide F
/-- Insert. -/
theorem insert_any (v : Value) (ms : List Ent) (x : Ent) (w : World) (base i vb : Nat) (tA : TypeId) (h : ApE w base v ms) (hvs : w.heap[vb]? = some (.cells x.cl.toArray tA (0, 0))) (hne : touch v ≠ some vb) (hl : ms.length ≤ 1048576) (hi : i ≤ ms.length) (hbase : base ≤ w.heap.size) :
    Calls Tryz.prog 137 #[v, .int .i64 (i : Int), .slice (some ⟨vb, 0, none⟩) 1 1] w (InsQ w base v (ms.take i ++ x :: ms.drop i)) := by
  have hcell : ∀ j u, x.cl[j]? = some u → w.cell? ⟨vb, j, none⟩ = some u := fun j u hu => by
    simp only [World.cell?, hvs]
    simpa using hu
  rcases Nat.eq_or_lt_of_le hi with rfl | hi
  · have e := insert_end v (.slice (some ⟨vb, 0, none⟩) 1 1) ms x w base h ⟨by simp, _, 1, rfl, by simp, .inr ⟨vb, 0, rfl, fun i hi j u hu => by
      obtain rfl : i = 0 := by simp at hi; omega
      simpa using hcell j u hu⟩⟩ hl hbase
    rw [List.take_length, List.drop_length]
    exact e
  · rcases h with ⟨rfl, a, rfl⟩ | h
    · simp at hi
    · rcases h.2 with ⟨rfl, h0⟩ | ⟨g, c, cur, rfl, hb, hg, hnc, hcm, hcs, htk⟩
      · omega
      · by_cases hroom : ms.length + 1 ≤ c
        · have hc0 : c ≠ 0 := by omega
          refine insert_shift g vb i c tA ms x w base cur.toList hb (by simpa using hg) (by simpa using hcs) htk hcm hvs (fun e => hne (by simp [touch, hc0, e])) hl hi hroom hbase
        · exact insert_grow g vb i c ms x w base h hcell hl hi (by omega) hbase
end Go.Proofs.YtjbfpmackocgnaaGreat
namespace Go.Proofs.YtjbfpmackocgnaaGreat
open Go.ChangeShapes Go.WideShapes Go.ChangeAt Go.RowKit
set_option linter.unusedVariables false
set_option linter.unusedSimpArgs false
set_option maxRecDepth 100000

/-- One entry's four cells are written. -/
theorem fcells_set (ms : List Ent) (i : Nat) (hi : i < ms.length) (y : Ent) : ((((fcells Ent.cl ms).set (i * 4) (.int .i64 y.pl)).set (i * 4 + 1) (.int .i64 y.wave)).set (i * 4 + 2) (.bool y.hole)).set (i * 4 + 3) (.string y.data) = fcells Ent.cl (ms.set i y) := by
  have h1 : ms = ms.take i ++ ms[i] :: ms.drop (i + 1) := by rw [List.getElem_cons_drop, List.take_append_drop]
  have h2 : ms.set i y = ms.take i ++ y :: ms.drop (i + 1) := by
    rw [List.set_eq_take_append_cons_drop, if_pos hi]
  have hl : (fcells Ent.cl (ms.take i)).length = i * 4 := by rw [fcells_len elemE.len, List.length_take]; congr 1; omega
  have e1 : fcells Ent.cl ms = fcells Ent.cl (ms.take i) ++ (.int .i64 ms[i].pl :: .int .i64 ms[i].wave :: .bool ms[i].hole :: .string ms[i].data :: fcells Ent.cl (ms.drop (i + 1))) := by
    have := congrArg (fcells Ent.cl) h1
    rw [fcells_app] at this
    exact this
  have e2 : fcells Ent.cl (ms.set i y) = fcells Ent.cl (ms.take i) ++ (.int .i64 y.pl :: .int .i64 y.wave :: .bool y.hole :: .string y.data :: fcells Ent.cl (ms.drop (i + 1))) := by
    rw [h2, fcells_app]
    rfl
  rw [e1, e2, ← hl]
  generalize fcells Ent.cl (ms.take i) = A
  simp [List.set_append]
/-- A row in which one entry is written anew. -/
theorem ApE.stored {w : World} {base g c : Nat} {ms : List Ent} (h : w.ownsRow base 36 4 (.slice (some ⟨g, 0, none⟩) ms.length c) ms.length (fcells Ent.cl ms)) {i : Nat} (hi : i < ms.length) (y : Ent) :
    ((((w.setCell ⟨g, i * 4, none⟩ (.int .i64 y.pl)).setCell ⟨g, i * 4 + 1, none⟩ (.int .i64 y.wave)).setCell ⟨g, i * 4 + 2, none⟩ (.bool y.hole)).setCell ⟨g, i * 4 + 3, none⟩ (.string y.data)).ownsRow base 36 4 (.slice (some ⟨g, 0, none⟩) ms.length c) ms.length (fcells Ent.cl (ms.set i y)) ∧
    w.grownBy ((((w.setCell ⟨g, i * 4, none⟩ (.int .i64 y.pl)).setCell ⟨g, i * 4 + 1, none⟩ (.int .i64 y.wave)).setCell ⟨g, i * 4 + 2, none⟩ (.bool y.hole)).setCell ⟨g, i * 4 + 3, none⟩ (.string y.data)) (some g) := by
  have s1 := h.stored (i * 4) (.int .i64 y.pl)
  have s2 := s1.1.stored (i * 4 + 1) (.int .i64 y.wave)
  have s3 := s2.1.stored (i * 4 + 2) (.bool y.hole)
  have s4 := s3.1.stored (i * 4 + 3) (.string y.data)
  rw [← fcells_set ms i hi y]
  exact ⟨s4.1, grown_trans (grown_trans (grown_trans s1.2 s2.2) s3.2) s4.2⟩
/-- What was left of a later world is left of an earlier one. -/
theorem InsQ.before {w w1 : World} {base : Nat} {v : Value} {ns : List Ent} {r : Ending} {w' : World} (hb : Below w.heap.size w w1) (h : InsQ w1 base v ns r w') : InsQ w base v ns r w' := by
  obtain ⟨v', h1, h2, h3, h4⟩ := h
  refine ⟨v', h1, h2, ⟨h3.os.trans hb.os, h3.tape.trans hb.tape, h3.output.trans hb.output, Nat.le_trans hb.size h3.size, fun k hk hn => (h3.block k (Nat.lt_of_lt_of_le hk hb.size) hn).trans (hb.block k hk)⟩, ?_⟩
  rcases h4 with h4 | h4
  · exact .inl h4
  · exact .inr fun k hk => Nat.le_trans hb.size (h4 k hk)
set_option maxHeartbeats 4000000 in
theorem keep_any (v : Value) (ms : List Ent) (e : Ent) (w : World) (base : Nat) (h : ApE w base v ms) (ha : ascE ms) (hl : ms.length ≤ 1048576) (hbase : base ≤ w.heap.size) :
    Calls Tryz.prog 104 #[v, e.val, .func (.func 105) #[] #[]] w (InsQ w base v (keepL e ms)) := by
  have ba : ∀ (w : World) o, Below w.heap.size w (w.alloc o) := fun w o => (Below.refl _ _).alloc (Nat.le_refl _) o
  have HF := dHide fun W (hb : Below w.heap.size w W) => find_any v ms e.pl W ((ApR.own elemE h).rw.below hb) ha hl
  have HI := dHide fun W (hb : Below w.heap.size w W) i hi => insert_any v ms e (W.alloc (.cells e.cl.toArray 36)) base i W.heap.size 36 (h.below (belowThen hb (ba _ _))) (MapKept.heap_alloc W _).1 (fun ht => by have := (h.touched elemE ht).2; have := hb.size; omega) hl hi (by have := hb.size; simp; omega)
  have HP := dHide fun W => place_any e W
  have HB := dHide fun a W => implBetter_any a e W
  have HQ : Hid (∀ W, Below w.heap.size w W → ∀ r w' ns, InsQ (W.alloc (.cells e.cl.toArray 36)) base v ns r w' → InsQ w base v ns r w') := fun W hb r w' ns hq => hq.before (belowThen hb (ba _ _))
  have H := dHide h
  have KN : Hid (∀ i, posP ms e.pl i → ¬ foundP ms e.pl i → ms.take i ++ e :: ms.drop i = keepL e ms) := fun i hp hn => (keepL_new hp fun hi he => hn ⟨hi, he⟩).symm
  have KO : Hid (∀ i (hi : i < ms.length), posP ms e.pl i → ms[i].pl = e.pl → ms.set i (better ms[i] e) = keepL e ms) := fun i hi hp he => (keepL_old hp hi he).symm
  obtain ⟨a, c, rfl⟩ := ApR.slice elemE h
  obtain ⟨x, wv, ho, d⟩ := e
  unfold Ent.val Ent.cl at *
  simp only at *
  clear h ha
  have B0 := ba w (.cells #[.int .i64 x, .int .i64 wv, .bool ho, .string d] 36)
  have X0 := Bx.new w [.int .i64 x, .int .i64 wv, .bool ho, .string d] 36
  go_enter Tryz.func104, Tryz.ntmps104
  go_wp2_with fail
  generalize w.alloc (.cells #[.int .i64 x, .int .i64 wv, .bool ho, .string d] 36) = w0 at *
  refine (dUnhide HP _).mono ?_
  rintro r w1 ⟨rfl, b1⟩
  have B1 := belowThen B0 b1
  have X1 := X0.below b1
  clear B0 b1 X0
  go_wp2_with fail
  refine (dUnhide HF _ B1).mono ?_
  rintro r w2 ⟨⟨i, fb, rfl, hp, hfb⟩, b2⟩
  have B2 := belowThen B1 b2
  have X2 := X1.below b2
  clear B1 b2 X1
  have p0 := X2 0 _ rfl
  have p1 := X2 1 _ rfl
  have p2 := X2 2 _ rfl
  have p3 := X2 3 _ rfl
  cases fb
  · have eK := dUnhide KN i hp (fun hf => by have := hfb.2 hf; cases this)
    have CI := dHide (dUnhide HI w2 B2 i hp.1)
    have CQ := dHide (dUnhide HQ w2 B2)
    clear HI HQ KO KN HF HP HB hfb
    rw [eK] at CI
    go_wp2_with fail
    refine (dUnhide CI).mono ?_
    intro r w3 hq
    have F := dHide (dUnhide CQ _ _ _ hq)
    obtain ⟨v', rfl, -⟩ := hq
    go_wp2
    go_ret
    exact dUnhide F
  · obtain ⟨hi, hfe⟩ := hfb.1 rfl
    have eK := dHide (dUnhide KO i hi hp hfe)
    have HB1 := dHide (dUnhide HB ms[i])
    clear HI HQ KO KN HF HP HB hfb hp
    rcases dUnhide H with ⟨rfl, -⟩ | hrow
    · simp at hi
    have hrow2 := rowR_below hrow B2
    rcases hrow.2 with ⟨e0, e1⟩ | ⟨g, c', cur, e0, hbg, -⟩
    · omega
    cases e0
    have hgw : g < w.heap.size := (hrow.lt g rfl).2
    have hc0 : c ≠ 0 := by
      rcases hrow.2 with ⟨e0, -⟩ | ⟨g, c', cur, e0, -, -, hnc, -⟩
      · cases e0
      · cases e0; omega
    obtain ⟨b', off', e0, hc⟩ := (ownRw_of_row elemE.len elemE.pos hrow2).rw.ent hi
    cases e0
    have EA := hc i hi
    rw [Nat.zero_add] at EA
    have FIN : Hid (∀ w3, Below w2.heap.size w2 w3 → ∀ y : Ent, y = better ms[i] ⟨x, wv, ho, d⟩ → InsQ w base (.slice (some ⟨g, 0, none⟩) ms.length c) (keepL ⟨x, wv, ho, d⟩ ms) (.returned (.slice (some ⟨g, 0, none⟩) ms.length c)) ((((w3.setCell ⟨g, i * 4, none⟩ (.int .i64 y.pl)).setCell ⟨g, i * 4 + 1, none⟩ (.int .i64 y.wave)).setCell ⟨g, i * 4 + 2, none⟩ (.bool y.hole)).setCell ⟨g, i * 4 + 3, none⟩ (.string y.data))) := fun w3 hb y hy => by
      obtain ⟨s1, s2⟩ := ApE.stored (rowR_below hrow2 hb) hi y
      refine InsQ.before (belowThen B2 hb) ⟨_, rfl, .inr ?_, by simpa [touch, hc0] using s2, .inl rfl⟩
      rw [← dUnhide eK, ← hy, List.length_set]
      exact s1
    have HFZ := dHide fun W (hb : Below w2.heap.size w2 W) j => (rowR_below hrow2 hb).frozenAt j
    have HEA := dHide EA
    have HX := dHide X2
    generalize ms[i] = ei at *
    obtain ⟨x', wv', ho', d'⟩ := ei
    generalize hy : better ⟨x', wv', ho', d'⟩ ⟨x, wv, ho, d⟩ = y at *
    have FIN2 := dHide fun w3 hb => dUnhide FIN w3 hb y rfl
    obtain ⟨yx, yw, yh, yd⟩ := y
    obtain ⟨c0, c1, c2, c3⟩ := EA
    simp only at *
    clear hc hrow hrow2 eK H hfe hy FIN X2
    have t1 : (0 : Int) ≤ (i : Int) := by omega
    have t2 : (i : Int) < (ms.length : Int) := by omega
    have hb1 : Below w2.heap.size w2 w2.drew := (Below.refl _ _).drew
    generalize InsQ w base (.slice (some ⟨g, 0, none⟩) ms.length c) (keepL ⟨x, wv, ho, d⟩ ms) = Q at *
    go_wp2
    go_region_with (go_at_call 105; refine (dUnhide HB1 _).mono ?_; rintro r w3 ⟨rfl, b3⟩; have hb3 := belowThen hb1 b3; have F := dHide (dUnhide FIN2 _ hb3); obtain ⟨r0, r1, r2, r3⟩ := (dUnhide HEA).below hb3; have f0 := dUnhide HFZ _ hb3 (i * 4); have f1 := dUnhide HFZ _ hb3 (i * 4 + 1); have f2 := dUnhide HFZ _ hb3 (i * 4 + 2); have f3 := dUnhide HFZ _ hb3 (i * 4 + 3); clear b3 hb3)
    all_goals
      go_wp2
      first | exact dUnhide F | (go_ret; exact dUnhide F)
end Go.Proofs.YtjbfpmackocgnaaGreat
