/- slices.Insert of one entry, in a list that nobody else has. -/
import Derived.Test.YtjkjmapibcfcdaaGreatGaD
import Derived.Test.YtjkjmapibcfcdaaGreatGbF
import Derived.Lib.AppendZerosOnto
import Derived.Lib.Overlaps
import Derived.Deep.RegionLaw
import Derived.Deep.RegionHeld3
namespace Go.Proofs.YtjkjmapibcfcdaaGreat
open Go.ChangeShapes Go.WideShapes Go.ChangeAt Go.RowKit
set_option linter.unusedVariables false
set_option linter.unusedSimpArgs false
set_option maxRecDepth 100000

theorem splice_at {α : Type} (A Z B : List α) : splice (A ++ Z) A.length B = A ++ (B ++ Z.drop B.length) := by
 unfold splice
 rw [List.take_left, List.drop_append]
 have e : A.length + B.length - A.length = B.length := by omega
 rw [e, List.drop_eq_nil_of_le (by omega)]
 simp
theorem splice_grow {α : Type} (A Z B D : List α) : splice (splice (A ++ Z) A.length B) (A.length + B.length) D = A ++ (B ++ (D ++ (Z.drop B.length).drop D.length)) := by
 rw [splice_at, ← List.append_assoc]
 have := splice_at (A ++ B) (Z.drop B.length) D
 rw [List.length_append] at this
 rw [this, List.append_assoc]
theorem splice_shift {α : Type} (A M Z B D : List α) (h : B.length = M.length) : splice (splice (A ++ (M ++ Z)) (A.length + M.length) D) A.length B = A ++ (B ++ (D ++ Z.drop D.length)) := by
 have h1 := splice_at (A ++ M) Z D
 rw [List.length_append, List.append_assoc] at h1
 rw [h1, List.append_assoc, splice_at, h, List.drop_left]
theorem elemF : Elem (α := Ent) 36 114 (.agg #[.int .i64 0, .int .i64 0, .bool false, .string ⟨#[]⟩]) 4 40 Ent.cl where
 under := Tryz.underlying114
 info := elemE.info
 zcells := elemE.zcells
 pos := by decide
 len := fun _ => rfl
 one := elemE.one
theorem append_types {TS T2 T : TypeId} (h1 : Tryz.prog.underlying TS = some (.slice T)) (h2 : Tryz.prog.underlying T2 = some (.slice T)) (ty : TypeId) (a b : Option Addr) (n c m d : Nat) (w : World) :
  (Builtin.append_ #[TS, T2] ty #[.slice a n c, .slice b m d]).run Tryz.prog w = (Builtin.append_ #[TS, TS] ty #[.slice a n c, .slice b m d]).run Tryz.prog w := by
 cases hq : Tryz.prog.info? T with
 | none => simp [Builtin.append_, run_underlying h1, run_underlying h2, sizeOf, typeInfo, hq]
 | some i => simp [Builtin.append_, run_underlying h1, run_underlying h2, sizeOf, typeInfo, hq]
section
variable {w : World} {ops : Array Oper} {rest : List Oper} {o : Oper} {a : Act} {Q : Exit → Act → World → Prop}
theorem wp_apT {α : Type} {T TS T2 : TypeId} {z : Value} {sz bytes : Nat} {cl : α → List Value} (E : Elem T TS z sz bytes cl) (h2 : Tryz.prog.underlying T2 = some (.slice T)) (hgd : o.guard = none) (s x : Operand) (ho : o.op = .call { callee := .builtin .append, args := #[s, x], argTypes := #[TS, T2] })
  (base : Nat) (v : Value) (ms : List α) (hs : a.eval s = v) (hown : ApR T sz cl w base v ms) (sv : Value) (ns : List α) (hx : a.eval x = sv) (hsrc : Rw sz cl w sv ns)
  (hb : (ms.length + ns.length) * bytes ≤ 140737488355328) (hl : ms.length + ns.length ≤ 9223372036854775807) (hbase : base ≤ w.heap.size)
  (h : ∀ v' w', ApR T sz cl w' base v' (ms ++ ns) → w.grownBy w' (touch v) → (touch v' = touch v ∨ ∀ k, touch v' = some k → w.heap.size ≤ k) → wpList Tryz.prog ops Q rest (a.put o.dst v') w') : wpList Tryz.prog ops Q (o :: rest) a w := by
 refine wpList_plain hgd fun K' hK' => ?_
 obtain ⟨v', w', hrun, h1, h2', h3⟩ := run_apR E o.type hown sv hsrc hb hl hbase
 obtain ⟨va, vc, rfl⟩ := ApR.slice E hown
 obtain ⟨sa, sc, rfl⟩ : ∃ sa sc, sv = .slice sa ns.length sc := by
  obtain ⟨-, sa, sc, rfl, -⟩ := hsrc
  exact ⟨sa, sc, rfl⟩
 rw [← append_types E.under h2] at hrun
 unfold Oper.wp
 simp [execOp, ho, resolve, invoke, builtin, hs, hx, hrun, Result.andThen]
 exact hK' _ _ (h v' w' h1 h2' h3)
theorem wp_growZ {α : Type} {T TS tn : TypeId} {z : Value} {sz bytes : Nat} {cl : α → List Value} (E : Elem T TS z sz bytes cl) (htn : Tryz.prog.underlying tn = some (.int .i64)) (hgd : o.guard = none) (s x : Operand) (ho : o.op = .call { callee := .builtin .append, args := #[s, x], argTypes := #[TS, tn] })
  (g i c k N : Nat) (hN : i + k = N) (olds : List α) (hs : a.eval s = .slice (some ⟨g, 0, none⟩) i c) (hx : a.eval x = .int .i64 (k : Int)) (hol : olds.length = i) (hold : ∀ j u, (fcells cl olds)[j]? = some u → w.cell? ⟨g, j, none⟩ = some u)
  (h0 : 0 < k) (hg : c < i + k) (hb : (i + k) * bytes ≤ 140737488355328) (hb2 : 0 < bytes)
  (h : ∀ w' G Z ROW, Hid (ROW = fcells cl olds ++ Z) → Hid (w'.heap[w.heap.size]? = some (.cells ROW.toArray T (0, 0))) → Hid (w.grownBy w' none) → N ≤ G → G ≤ 9223372036854775807 → Hid (Z.length = (G - i) * sz) → wpList Tryz.prog ops Q rest (a.put o.dst (.slice (some ⟨w.heap.size, 0, none⟩) N G)) w') : wpList Tryz.prog ops Q (o :: rest) a w := by
 subst hN
 refine wpList_plain hgd fun K' hK' => ?_
 obtain ⟨i0, hi0, hz0, hzs, hzb⟩ := info_parts E.info
 have hik : i + k ≤ 140737488355328 := Nat.le_trans (Nat.le_mul_of_pos_right _ hb2) hb
 have hk : k * bytes ≤ 140737488355328 := Nat.le_trans (Nat.mul_le_mul_right _ (by omega)) hb
 have hfc : (Builtin.firstCells i0.size i (.slice (some ⟨g, 0, none⟩) i c)).run Tryz.prog w.drew = .ok (fcells cl olds).toArray w.drew := by
  rw [hzs]
  exact run_firstCells_some w.drew sz i ⟨g, 0, none⟩ i c (fcells cl olds) (by rw [fcells_len E.len, hol]) (fun j u hu => by
   rw [addr_add, Nat.zero_add]
   exact hold j u hu)
 have hr := Lib.run_append_grow_zeros (P := Tryz.prog) w TS tn o.type T i0 _ .i64 .i64 E.under htn hi0 hz0 (some ⟨g, 0, none⟩) i c (fcells cl olds) hfc k h0 (by rw [hzs]; exact E.pos) hg (by omega) (by rw [hzb]; omega) (by rw [hzb]; exact growslice_fits hg hb)
 have hGn := grownCap_ge w (i + k) c T
 have hG63 := grownCap_le_maxLen w (i + k) c T (by unfold maxLen; omega)
 unfold maxLen at hG63
 generalize hG : grownCap w (i + k) c T = G at *
 have hZ : ((Builtin.zeroCells z.cells k).toList ++ (Builtin.zeroCells z.cells (G - (i + k))).toList).length = (G - i) * sz := by
  rw [List.length_append, Array.length_toList, Array.length_toList, zeroCells_size, zeroCells_size, E.zcells, ← Nat.add_mul]
  congr 1
  omega
 unfold Oper.wp
 simp [execOp, ho, resolve, invoke, builtin, hs, hx, hr, Result.andThen]
 refine hK' _ _ (h _ G ((Builtin.zeroCells z.cells k).toList ++ (Builtin.zeroCells z.cells (G - (i + k))).toList) _ (show _ = _ from rfl) ?_ ?_ hGn hG63 hZ)
 ·show _ = _
  have e1 : ((fcells cl olds).toArray ++ (Builtin.zeroCells z.cells k ++ Builtin.zeroCells z.cells (G - (i + k)))) = (fcells cl olds ++ ((Builtin.zeroCells z.cells k).toList ++ (Builtin.zeroCells z.cells (G - (i + k))).toList)).toArray := by apply Array.ext'; simp
  rw [e1]
  exact (MapKept.heap_alloc w.drew _).1
 ·exact ⟨rfl, rfl, rfl, by simp, fun k' hk' _ => (MapKept.heap_alloc w.drew _).2 k' hk'⟩
end
end Go.Proofs.YtjkjmapibcfcdaaGreat
