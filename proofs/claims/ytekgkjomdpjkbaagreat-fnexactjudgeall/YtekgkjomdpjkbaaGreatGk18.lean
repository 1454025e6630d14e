/- Several texts in one: MpS, PutW, JgA, AwS, EvS, CpP, NxD, RdS. -/
import Derived.Test.YtekgkjomdpjkbaaGreatGaA
import Derived.Carry
import Derived.MapKept
import Derived.WalkKit
import Derived.Deep.MidRow
import Derived.Test.YtekgkjomdpjkbaaGreatGk14
import Derived.Deep.RegionHeld3
import Derived.Deep.DeepCutAuto
import Derived.Test.YtekgkjomdpjkbaaGreatGz19
import Derived.Test.YtekgkjomdpjkbaaGreatGaT
import Derived.Test.YtekgkjomdpjkbaaGreatGbP
import Derived.Laws.CopyOwn
import Derived.Laws.IdiomCopy
import Derived.Lib.SliceRun
namespace Go.Proofs.YtekgkjomdpjkbaaGreat
open Go.ChangeShapes Go.WideShapes Go.ChangeAt Go.RowKit
set_option linter.unusedSimpArgs false
set_option linter.unusedVariables false
set_option maxRecDepth 100000
theorem putMap {w : World} {b B : Nat} {es : Array MapEntry} {c : Nat} (h0 : w.heap[b]? = some (.map es c)) (hB : B ≤ b) (o : Obj) :
  ({ w with heap := w.heap.setIfInBounds b o } : World).heap[b]? = some o ∧ ({ w with heap := w.heap.setIfInBounds b o } : World).heap.size = w.heap.size ∧ (∀ k, k ≠ b → ({ w with heap := w.heap.setIfInBounds b o } : World).heap[k]? = w.heap[k]?) ∧ Below B w { w with heap := w.heap.setIfInBounds b o } := by
 have hlt : b < w.heap.size := (Array.getElem?_eq_some_iff.1 h0).1
 have ho : ∀ k, k ≠ b → ({ w with heap := w.heap.setIfInBounds b o } : World).heap[k]? = w.heap[k]? := fun k hk => by simp [Array.getElem?_setIfInBounds_ne (Ne.symm hk)]
 exact ⟨by simp [hlt], by simp, ho, rfl, rfl, rfl, by simp, fun k hk => ho k (by omega)⟩
theorem op_insertS {w : World} {o : Oper} {a : Act} {Q : Exit → Act → World → Prop} {K : Act → World → Prop} (T KT ET : TypeId) (m k x : Operand) (hop : o.op = .insert T m k x) (hd : o.dst = none) {b B c : Nat} {es : Array MapEntry} (s : ByteArray) (v : Value) (hm : a.eval m = .map (some b)) (hk : a.eval k = .string s) (hx : a.eval x = v)
  (hu : Tryz.prog.underlying T = some (.map KT ET)) (hs : Tryz.prog.underlying KT = some .string) (h0 : w.heap[b]? = some (.map es c)) (hB : B ≤ b) (hf : Instr.findNow .string (.string s) es.toList 0 = some none)
  (h : ∀ w', w'.heap[b]? = some (.map (es.push { key := .string s, val := v, born := c }) (c + 1)) → w'.heap.size = w.heap.size → (∀ k, k ≠ b → w'.heap[k]? = w.heap[k]?) → Below B w w' → K a w') : Oper.wp Tryz.prog o a w K Q := by
 obtain ⟨q1, q2, q3, q4⟩ := putMap (o := .map (es.push { key := .string s, val := v, born := c }) (c + 1)) h0 hB
 have hh := h _ q1 q2 q3 q4
 have hr : (Instr.mapUpdate T (.map (some b)) (.string s) v).run Tryz.prog w = .ok () { w with heap := w.heap.setIfInBounds b (.map (es.push { key := .string s, val := v, born := c }) (c + 1)) } := by
  simp [Instr.mapUpdate, run_underlying hu, MapKept.run_getObj_map h0, MapKept.run_checkKey (k := .string s) hs trivial, MapKept.run_findKey hs hf, MapKept.run_setObj_map _ h0]
 unfold Oper.wp execOp
 simp only [hop, hm, hk, hx, Sem.run_bind, Sem.run_pure, hr, Result.andThen_ok]
 rw [← show a.put o.dst undef = a by rw [hd]; rfl] at hh
 exact hh
theorem wp_insertS {w : World} {ops : Array Oper} {rest : List Oper} {o : Oper} {a : Act} {Q : Exit → Act → World → Prop} (hgd : o.guard = none) (T KT ET : TypeId) (m k x : Operand) (hop : o.op = .insert T m k x) (hd : o.dst = none) {b B c : Nat} {es : Array MapEntry} (s : ByteArray) (v : Value) (hm : a.eval m = .map (some b)) (hk : a.eval k = .string s) (hx : a.eval x = v)
  (hu : Tryz.prog.underlying T = some (.map KT ET)) (hs : Tryz.prog.underlying KT = some .string) (h0 : w.heap[b]? = some (.map es c)) (hB : B ≤ b) (hf : Instr.findNow .string (.string s) es.toList 0 = some none)
  (h : ∀ w', w'.heap[b]? = some (.map (es.push { key := .string s, val := v, born := c }) (c + 1)) → w'.heap.size = w.heap.size → (∀ k, k ≠ b → w'.heap[k]? = w.heap[k]?) → Below B w w' → wpList Tryz.prog ops Q rest a w') : wpList Tryz.prog ops Q (o :: rest) a w :=
 wpList_plain hgd fun K' hK' => op_insertS T KT ET m k x hop hd s v hm hk hx hu hs h0 hB hf fun w' q1 q2 q3 q4 => hK' _ _ (h w' q1 q2 q3 q4)
theorem wp_deleteS {w : World} {ops : Array Oper} {rest : List Oper} {o : Oper} {a : Act} {Q : Exit → Act → World → Prop} (hgd : o.guard = none) (T KT ET : TypeId) (m k : Operand) (hop : o.op = .call { callee := .builtin .delete, args := #[m, k], argTypes := #[T, KT] }) (hd : o.dst = none) {b B c i : Nat} {es : Array MapEntry} (s : ByteArray) (hm : a.eval m = .map (some b)) (hk : a.eval k = .string s)
  (hu : Tryz.prog.underlying T = some (.map KT ET)) (hs : Tryz.prog.underlying KT = some .string) (h0 : w.heap[b]? = some (.map es c)) (hB : B ≤ b) (hf' : (Instr.findNow .string (.string s) es.toList 0).map (Option.map Prod.fst) = some (some i))
  (h : ∀ w', w'.heap[b]? = some (.map (es.eraseIdxIfInBounds i) c) → w'.heap.size = w.heap.size → (∀ k, k ≠ b → w'.heap[k]? = w.heap[k]?) → Below B w w' → wpList Tryz.prog ops Q rest a w') : wpList Tryz.prog ops Q (o :: rest) a w := by
 obtain ⟨v, hf⟩ : ∃ v, Instr.findNow .string (.string s) es.toList 0 = some (some (i, v)) := by
  rcases hq : Instr.findNow .string (.string s) es.toList 0 with _ | _ | ⟨j, v⟩ <;> simp [hq] at hf'
  exact ⟨v, by rw [hf']⟩
 refine wpList_plain hgd fun K' hK' => ?_
 obtain ⟨q1, q2, q3, q4⟩ := putMap (o := .map (es.eraseIdxIfInBounds i) c) h0 hB
 have hh := hK' _ _ (h _ q1 q2 q3 q4)
 have hr : (Builtin.delete_ #[T, KT] o.type #[.map (some b), .string s]).run Tryz.prog w = .ok (.tuple #[]) { w with heap := w.heap.setIfInBounds b (.map (es.eraseIdxIfInBounds i) c) } := by
  simp [Builtin.delete_, run_underlying hu, MapKept.run_getObj_map h0, MapKept.run_checkKey (k := .string s) hs trivial, MapKept.run_findKey hs hf, MapKept.run_setObj_map _ h0]
 unfold Oper.wp
 simp [execOp, hop, resolve, invoke, builtin, hm, hk, hr, Result.andThen, Oper.upon]
 rw [← show a.put o.dst (.tuple #[]) = a by rw [hd]; rfl] at hh
 exact hh
theorem Bx.off {w w' : World} {b c : Nat} {vs : List Value} (h : Bx w b vs) (g : ∀ k, k ≠ c → w'.heap[k]? = w.heap[k]?) (hb : b ≠ c) : Bx w' b vs := fun i v hv => (World.cell?_of_block (a := ⟨b, i, none⟩) (g b hb)).trans (h i v hv)
theorem BxZ.off {w w' : World} {B b c : Nat} {vs : List Value} (h : BxZ w B b vs) (g : ∀ k, k ≠ c → w'.heap[k]? = w.heap[k]?) (hb : b ≠ c) : BxZ w' B b vs := ⟨h.1, fun i v hv => ⟨(World.cell?_of_block (a := ⟨b, i, none⟩) (g b hb)).trans (h.2 i v hv).1, (World.frozen?_of_block (a := ⟨b, i, none⟩) (g b hb)).trans (h.2 i v hv).2⟩⟩
theorem Sits.off {P : World → Prop} {lo hi c : Nat} {w w' : World} (h : Sits P lo hi w) (g : ∀ k, k ≠ c → w'.heap[k]? = w.heap[k]?) (hb : c < lo ∨ hi ≤ c) (hs : w'.heap.size = w.heap.size) : Sits P lo hi w' :=
 ⟨by rw [hs]; exact h.fit, fun W hW => h.all W fun k h1 h2 => (hW k h1 h2).trans (g k (by omega))⟩
def judgesE (bx : Nat) (torn : Bool) : Array MapEntry := if torn then #[{ key := .string ⟨#[111, 114, 100, 101, 114]⟩, val := .func (.func 115) #[] #[.pointer (some ⟨bx, 0, none⟩)], born := 0 }, { key := .string ⟨#[116, 114, 117, 101]⟩, val := .func (.func 118) #[] #[.pointer (some ⟨bx, 0, none⟩)], born := 1 }] else #[{ key := .string ⟨#[111, 114, 100, 101, 114]⟩, val := .func (.func 115) #[] #[.pointer (some ⟨bx, 0, none⟩)], born := 0 }, { key := .string ⟨#[116, 114, 117, 101]⟩, val := .func (.func 118) #[] #[.pointer (some ⟨bx, 0, none⟩)], born := 1 }, { key := .string ⟨#[107, 101, 112, 116]⟩, val := .func (.func 121) #[] #[.pointer (some ⟨bx, 0, none⟩)], born := 2 }, { key := .string ⟨#[119, 104, 111, 108, 101]⟩, val := .func (.func 124) #[] #[.pointer (some ⟨bx, 0, none⟩)], born := 3 }, { key := .string ⟨#[115, 97, 109, 101]⟩, val := .func (.func 127) #[] #[.pointer (some ⟨bx, 0, none⟩)], born := 4 }]
set_option maxHeartbeats 4000000 in
theorem implJudges_t (dv sv lv ev wv nv rv tv : Value) (cop tr : Int) (w : World) :
  Calls Tryz.prog 73 #[.agg #[dv, .int .i64 cop, sv, lv, ev, .int .i64 tr, wv, nv, rv, tv, .bool true]] w fun e w' => (∃ b, e = .returned (.map (some b)) ∧ w'.heap[b]? = some (.map (judgesE w.heap.size true) 5) ∧ Bx w' w.heap.size [dv, .int .i64 cop, sv, lv, ev, .int .i64 tr, wv, nv, rv, tv, .bool true]) ∧ Below w.heap.size w w' := by
 have hmm := @run_makeMap Tryz.prog
 have ba : ∀ (w : World) o, Below w.heap.size w (w.alloc o) := fun w o => (Below.refl _ _).alloc (Nat.le_refl _) o
 have B := bT (ba w (.cells #[dv, .int .i64 cop, sv, lv, ev, .int .i64 tr, wv, nv, rv, tv, .bool true] 47)) (ba _ (.map #[] 0))
 have X := (Bx.new w [dv, .int .i64 cop, sv, lv, ev, .int .i64 tr, wv, nv, rv, tv, .bool true] 47).below (ba _ (.map #[] 0))
 have M : ((w.alloc (.cells #[dv, .int .i64 cop, sv, lv, ev, .int .i64 tr, wv, nv, rv, tv, .bool true] 47)).alloc (.map #[] 0)).heap[w.heap.size + 1]? = some (.map #[] 0) := heap_alloc2_new _ _ _
 have kt := X 10 _ rfl
 go_enter Tryz.func73, Tryz.ntmps73
 go_wp2_with (first | (refine wp_insertS rfl _ _ _ _ _ _ rfl rfl _ _ rfl rfl rfl Tryz.underlying124 Tryz.underlying9 M (B := w.heap.size) (Nat.le_add_right _ _) (by kernel_rfl) ?_; clear M kt; intro wd M s g b; replace X := X.off g (by omega); replace B := B.trans b; clear s g b; have kt := X 10 _ rfl) | (refine wp_deleteS rfl _ _ _ _ _ rfl rfl (i := 2) _ rfl rfl Tryz.underlying124 Tryz.underlying9 M (B := w.heap.size) (Nat.le_add_right _ _) (by kernel_rfl) ?_; clear M kt; intro wd M s g b; replace X := X.off g (by omega); replace B := B.trans b; clear s g b; have kt := X 10 _ rfl))
 go_ret
 exact ⟨⟨_, rfl, M.trans (by kernel_rfl), X⟩, B⟩
set_option maxHeartbeats 4000000 in
theorem implJudges_f (dv sv lv ev wv nv rv tv : Value) (cop tr : Int) (w : World) :
  Calls Tryz.prog 73 #[.agg #[dv, .int .i64 cop, sv, lv, ev, .int .i64 tr, wv, nv, rv, tv, .bool false]] w fun e w' => (∃ b, e = .returned (.map (some b)) ∧ w'.heap[b]? = some (.map (judgesE w.heap.size false) 5) ∧ Bx w' w.heap.size [dv, .int .i64 cop, sv, lv, ev, .int .i64 tr, wv, nv, rv, tv, .bool false]) ∧ Below w.heap.size w w' := by
 have hmm := @run_makeMap Tryz.prog
 have ba : ∀ (w : World) o, Below w.heap.size w (w.alloc o) := fun w o => (Below.refl _ _).alloc (Nat.le_refl _) o
 have B := bT (ba w (.cells #[dv, .int .i64 cop, sv, lv, ev, .int .i64 tr, wv, nv, rv, tv, .bool false] 47)) (ba _ (.map #[] 0))
 have X := (Bx.new w [dv, .int .i64 cop, sv, lv, ev, .int .i64 tr, wv, nv, rv, tv, .bool false] 47).below (ba _ (.map #[] 0))
 have M : ((w.alloc (.cells #[dv, .int .i64 cop, sv, lv, ev, .int .i64 tr, wv, nv, rv, tv, .bool false] 47)).alloc (.map #[] 0)).heap[w.heap.size + 1]? = some (.map #[] 0) := heap_alloc2_new _ _ _
 have kt := X 10 _ rfl
 go_enter Tryz.func73, Tryz.ntmps73
 go_wp2_with (first | (refine wp_insertS rfl _ _ _ _ _ _ rfl rfl _ _ rfl rfl rfl Tryz.underlying124 Tryz.underlying9 M (B := w.heap.size) (Nat.le_add_right _ _) (by kernel_rfl) ?_; clear M kt; intro wd M s g b; replace X := X.off g (by omega); replace B := B.trans b; clear s g b; have kt := X 10 _ rfl) | (refine wp_deleteS rfl _ _ _ _ _ rfl rfl (i := 2) _ rfl rfl Tryz.underlying124 Tryz.underlying9 M (B := w.heap.size) (Nat.le_add_right _ _) (by kernel_rfl) ?_; clear M kt; intro wd M s g b; replace X := X.off g (by omega); replace B := B.trans b; clear s g b; have kt := X 10 _ rfl))
 go_ret
 exact ⟨⟨_, rfl, M.trans (by kernel_rfl), X⟩, B⟩
structure Aw where
 node : Int
 has : Bool
 ent : Ent
def Aw.cl (e : Aw) : List Value := [.int .i64 e.node, .bool e.has, .int .i64 e.ent.pl, .int .i64 e.ent.wave, .bool e.ent.hole, .string e.ent.data]
def Aw.val (e : Aw) : Value := .agg #[.int .i64 e.node, .bool e.has, .int .i64 e.ent.pl, .int .i64 e.ent.wave, .bool e.ent.hole, .string e.ent.data]
theorem Aw.cl_len (e : Aw) : e.cl.length = 6 := rfl
def AwAt (w : World) (b o : Nat) (e : Aw) : Prop := w.cell? ⟨b, o, none⟩ = some (.int .i64 e.node) ∧ w.cell? ⟨b, o + 1, none⟩ = some (.bool e.has) ∧ w.cell? ⟨b, o + 2, none⟩ = some (.int .i64 e.ent.pl) ∧ w.cell? ⟨b, o + 3, none⟩ = some (.int .i64 e.ent.wave) ∧ w.cell? ⟨b, o + 4, none⟩ = some (.bool e.ent.hole) ∧ w.cell? ⟨b, o + 5, none⟩ = some (.string e.ent.data)
theorem AwAt.below {w w' : World} {b o : Nat} {e : Aw} (h : AwAt w b o e) (hb : Below w.heap.size w w') : AwAt w' b o e := by
 obtain ⟨h0, h1, h2, h3, h4, h5⟩ := h
 exact ⟨(hb.cell (p := ⟨b, o, none⟩) (dCell_lt h0)).trans h0, (hb.cell (p := ⟨b, o + 1, none⟩) (dCell_lt h1)).trans h1, (hb.cell (p := ⟨b, o + 2, none⟩) (dCell_lt h2)).trans h2, (hb.cell (p := ⟨b, o + 3, none⟩) (dCell_lt h3)).trans h3, (hb.cell (p := ⟨b, o + 4, none⟩) (dCell_lt h4)).trans h4, (hb.cell (p := ⟨b, o + 5, none⟩) (dCell_lt h5)).trans h5⟩
def RdAnswerS (v : Value) (m : List Aw) (W : World) : Prop := Rw 6 Aw.cl W v m
def OwAnswerS (lo hi : Nat) (v : Value) (m : List Aw) (W : World) : Prop := OwG 6 Aw.cl lo hi v m W
theorem OwAnswerS.rd {lo hi : Nat} {v : Value} {m : List Aw} {W : World} (h : OwAnswerS lo hi v m W) : RdAnswerS v m W := OwnRw.rw h.1
theorem RdAnswerS.below {v : Value} {m : List Aw} {W W' : World} (h : RdAnswerS v m W) (b : Below W.heap.size W W') : RdAnswerS v m W' := Rw.below h b
structure Ev where
 kind : Int
 pl : Int
 data : ByteArray
def Ev.cl (e : Ev) : List Value := [.int .i64 e.kind, .int .i64 e.pl, .string e.data]
def Ev.val (e : Ev) : Value := .agg #[.int .i64 e.kind, .int .i64 e.pl, .string e.data]
theorem Ev.cl_len (e : Ev) : e.cl.length = 3 := rfl
def zeroEv : Ev := ⟨0, 0, ⟨#[]⟩⟩
theorem elemEvent : Elem (α := Ev) 81 60 (.agg #[.int .i64 0, .int .i64 0, .string ⟨#[]⟩]) 3 32 Ev.cl where
 under := Tryz.underlying60
 info := by kernel_rfl
 zcells := by kernel_rfl
 pos := by decide
 len := fun _ => rfl
 one := fun a u hu => by
  simp only [Ev.cl, List.mem_cons, List.not_mem_nil, or_false] at hu
  rcases hu with rfl | rfl | rfl <;> rfl
def EvAt (w : World) (b o : Nat) (e : Ev) : Prop := w.cell? ⟨b, o, none⟩ = some (.int .i64 e.kind) ∧ w.cell? ⟨b, o + 1, none⟩ = some (.int .i64 e.pl) ∧ w.cell? ⟨b, o + 2, none⟩ = some (.string e.data)
theorem EvAt.below {w w' : World} {b o : Nat} {e : Ev} (h : EvAt w b o e) (hb : Below w.heap.size w w') : EvAt w' b o e := by
 obtain ⟨h0, h1, h2⟩ := h
 exact ⟨(hb.cell (p := ⟨b, o, none⟩) (dCell_lt h0)).trans h0, (hb.cell (p := ⟨b, o + 1, none⟩) (dCell_lt h1)).trans h1, (hb.cell (p := ⟨b, o + 2, none⟩) (dCell_lt h2)).trans h2⟩
theorem Rw.atEv {w : World} {a : Option Addr} {n cap : Nat} {es : List Ev} (h : Rw 3 Ev.cl w (.slice a n cap) es) {k : Nat} (hk : k < es.length) : ∃ b off, a = some ⟨b, off, none⟩ ∧ ∀ i (hi : i < es.length), EvAt w b (off + i * 3) es[i] := by
 obtain ⟨b, off, e, hc⟩ := h.elG hk
 exact ⟨b, off, e, fun i hi => ⟨hc i hi 0 _ rfl, hc i hi 1 _ rfl, hc i hi 2 _ rfl⟩⟩
theorem makeEvent (n : Nat) (h : n ≤ 1073741824) (w : World) : (Instr.makeSlice 60 (.int .i64 (n : Int)) (.int .i64 (n : Int))).run Tryz.prog w = .ok (.slice (some ⟨w.heap.size, 0, none⟩) n n) (w.alloc (.cells (madeCells (Value.agg #[.int .i64 0, .int .i64 0, .string ⟨#[]⟩]).cells (n * 3)) 81)) := by
 obtain ⟨i0, hi, hz0, hz1, hz2⟩ := info_parts (elemEvent).info
 have := run_make (P := Tryz.prog) w 60 81 i0 _ Tryz.underlying60 hi hz0 .i64 .i64 (n : Int) (n : Int) (by omega) (by omega) (by rw [hz2]; omega) (by omega)
 rw [hz1] at this
 simpa using this
theorem madeEvent (w : World) (n : Nat) : RwZ 3 Ev.cl (w.alloc (.cells (madeCells (Value.agg #[.int .i64 0, .int .i64 0, .string ⟨#[]⟩]).cells (n * 3)) 81)) w.heap.size 0 n (fun _ => zeroEv) := RwZ.made _ zeroEv rfl Ev.cl_len w n
set_option maxHeartbeats 4000000 in
theorem toEvent_any (e : Ev) (w : World) :
  Calls Tryz.prog 147 #[e.val] w fun r w' => r = .returned e.val ∧ Below w.heap.size w w' := by
 obtain ⟨y0, y1, y2⟩ := e
 unfold Ev.val
 go_enter Tryz.func147, Tryz.ntmps147
 go_wp2
 go_returns
 exact ⟨rfl, by go_grown⟩
theorem szEvent_any (e : Ev) (left : Int) (l0 : 0 ≤ left) (l1 : left ≤ 1048576) (hs : e.data.size ≤ 9223372036854775807) (w : World) :
  Calls Tryz.prog 138 #[e.val, .int .i64 left] w fun r w' => r = .returned (.int .i64 (if left < (e.data.size : Int) then -1 else left - (e.data.size : Int))) ∧ Below w.heap.size w w' := by
 obtain ⟨y0, y1, y2⟩ := e
 unfold Ev.val
 simp only at *
 by_cases hd : left < (y2.size : Int)
 ·rw [if_pos hd]
  have hd' : left - (y2.size : Int) < 0 := by omega
  go_enter Tryz.func138, Tryz.ntmps138
  go_wp2
  go_returns
  exact ⟨rfl, by go_grown⟩
 ·rw [if_neg hd]
  have hd' : ¬ (left - (y2.size : Int) < 0) := by omega
  go_enter Tryz.func138, Tryz.ntmps138
  go_wp2
  go_returns
  exact ⟨rfl, by go_grown⟩
theorem eqEvent_same (e : Ev) (w : World) :
  Calls Tryz.prog 188 #[e.val, e.val] w fun r w' => r = .returned (.bool true) ∧ Below w.heap.size w w' := by
 obtain ⟨y0, y1, y2⟩ := e
 unfold Ev.val
 go_enter Tryz.func188, Tryz.ntmps188
 go_wp2
 go_returns
 exact ⟨rfl, by go_grown⟩
def sumEv (es : List Ev) : Nat := (es.map fun e => e.data.size).sum
theorem sumEv_take (es : List Ev) (k : Nat) (h : k < es.length) : sumEv (es.take (k + 1)) = sumEv (es.take k) + es[k].data.size := by
 unfold sumEv
 rw [List.take_succ_eq_append_getElem h, List.map_append, List.sum_append, List.map_cons, List.map_nil, List.sum_cons, List.sum_nil, Nat.add_zero]
theorem sumEv_le (es : List Ev) (k : Nat) : sumEv (es.take k) ≤ sumEv es := by
 unfold sumEv
 conv => rhs; rw [← List.take_append_drop k es, List.map_append, List.sum_append]
 exact Nat.le_add_right _ _
def txtEv (es : List Ev) : Prop := ∀ e ∈ es, e.data.size ≤ 9223372036854775807
def RdEventS (v : Value) (m : List Ev) (W : World) : Prop := Rw 3 Ev.cl W v m
def OwEventS (lo hi : Nat) (v : Value) (m : List Ev) (W : World) : Prop := OwG 3 Ev.cl lo hi v m W
def sizEventS (m : List Ev) : Nat := m.length + sumEv m
theorem OwEventS.rd {lo hi : Nat} {v : Value} {m : List Ev} {W : World} (h : OwEventS lo hi v m W) : RdEventS v m W := OwnRw.rw h.1
theorem RdEventS.below {v : Value} {m : List Ev} {W W' : World} (h : RdEventS v m W) (b : Below W.heap.size W W') : RdEventS v m W' := Rw.below h b
theorem formEventS {v : Value} {m : List Ev} {W : World} (h : RdEventS v m W) : ∃ a cap, v = .slice a m.length cap ∧ m.length ≤ 9223372036854775807 := by
 obtain ⟨h0, a, cap, rfl, -, -⟩ := h
 exact ⟨a, cap, rfl, h0⟩
set_option maxHeartbeats 2000000 in
theorem szEventS_ (v : Value) (es : List Ev) (left : Int) (l0 : 0 ≤ left) (l1 : left ≤ 1048576) (hf : txtEv es) (w : World) (hv : RdEventS v es w) :
  Calls Tryz.prog 88 #[v, .int .i64 left] w fun r w' => r = .returned (.int .i64 (lft left (sizEventS es))) ∧ Below w.heap.size w w' := by
 have HV := dH fun W (hb : Below w.heap.size w W) => Rw.below hv hb
 have HF := dH hf
 obtain ⟨h0, a, cap, rfl, -, -⟩ := hv
 unfold sizEventS
 clear hf
 by_cases hl : left < (es.length : Int)
 ·have e1 : lft left (es.length + sumEv es) = -1 := lft_no (by omega)
  rw [e1]
  have hd : left - (es.length : Int) < 0 := by omega
  clear HV HF e1
  go_enter Tryz.func88, Tryz.ntmps88
  go_wp2
  go_ret
  exact ⟨rfl, Below.refl _ _⟩
 ·have hd : ¬ left - (es.length : Int) < 0 := by omega
  have LN : Hid (left < ((es.length + sumEv es : Nat) : Int) → lft left (es.length + sumEv es) = -1) := lft_no
  have LY : Hid (¬ left < ((es.length + sumEv es : Nat) : Int) → lft left (es.length + sumEv es) = left - ((es.length + sumEv es : Nat) : Int)) := lft_yes
  generalize lft left (es.length + sumEv es) = M at *
  go_enter Tryz.func88, Tryz.ntmps88
  go_wp2
  go_loopw [5, 1] (fun x y wr => ∃ (k : Nat) (q : Int), x = .int .i64 (k : Int) ∧ y = .int .i64 q ∧ k ≤ es.length ∧ 0 ≤ q ∧ q ≤ 1048576 ∧ Hid (q = left - (es.length : Int) - (sumEv (es.take k) : Int)) ∧ Below w.heap.size w wr) (fun x _ _ => es.length - (intOf x).toNat)
  case atStart => exact ⟨0, _, rfl, rfl, Nat.zero_le _, by omega, by omega, by simp [Hid, sumEv], Below.refl _ _⟩
  case round =>
   obtain ⟨k, q, rfl, rfl, hk, q0, q1, hq, hb⟩ := hrel
   by_cases hlt : (k : Int) < (es.length : Int)
   ·have hkl : k < es.length := by omega
    obtain ⟨b, off, rfl, hc⟩ := (dU HV wr hb).atEv hkl
    have hs := sumEv_take es k hkl
    have hs2 := sumEv_le es (k + 1)
    have CE := dH fun W => szEvent_any es[k] q q0 q1 (dU HF _ (List.getElem_mem hkl)) W
    obtain ⟨c0, c1, c2⟩ := hc k hkl
    have hq' := dU hq
    generalize es[k] = y at *
    obtain ⟨y0, y1, y2⟩ := y
    unfold Ev.val at CE
    simp only at *
    by_cases hn : q < (y2.size : Int)
    ·rw [if_pos hn] at CE
     have e1 := dU LN (by omega)
     subst e1
     clear hc HV HF hq' hq hs hs2 hn LN LY
     go_wp2_with fail
     refine (dU CE _).mono ?_
     rintro r w2 ⟨rfl, b2⟩
     have hb2 := bT hb b2
     clear CE b2 c0 c1 c2 hb
     go_wp2
     go_ret
     exact ⟨rfl, hb2⟩
    ·rw [if_neg hn] at CE
     have e1 : Hid (q - (y2.size : Int) = left - (es.length : Int) - (sumEv (es.take (k + 1)) : Int)) := by rw [Hid, hs]; omega
     have q0' : 0 ≤ q - (y2.size : Int) := by omega
     have q1' : q - (y2.size : Int) ≤ 1048576 := by omega
     generalize q - (y2.size : Int) = q' at *
     have hd' : ¬ q' < 0 := by omega
     clear hc hq' hq hs hs2 hn
     go_wp2_with fail
     refine (dU CE _).mono ?_
     rintro r w2 ⟨rfl, b2⟩
     have hb2 := bT hb b2
     clear CE b2 c0 c1 c2 hb
     go_wp2
     go_roundw
     case rel => exact ⟨k + 1, q', by go_num, rfl, by omega, q0', q1', e1, hb2⟩
     case measure => simp [intOf]; omega
   ·have e1 : es.take k = es := List.take_of_length_le (by omega)
    have hq' := dU hq
    rw [e1] at hq'
    have e2 := dU LY (by omega)
    have e3 : Hid (q = M) := by rw [Hid, e2, hq']; omega
    clear hq hq' e1 e2 LN LY HV HF
    go_wp2
    go_ret
    exact ⟨by rw [← dU e3]; rfl, hb⟩
set_option maxHeartbeats 4000000 in
theorem eqEventS_ (u v : Value) (es : List Ev) (w : World) (hu : RdEventS u es w) (hv : RdEventS v es w) :
  Calls Tryz.prog 135 #[u, v] w fun r w' => r = .returned (.bool true) ∧ Below w.heap.size w w' := by
 have HU := dH fun W (hb : Below w.heap.size w W) => Rw.below hu hb
 have HV := dH fun W (hb : Below w.heap.size w W) => Rw.below hv hb
 obtain ⟨h0, a, cap, rfl, -, -⟩ := hu
 obtain ⟨h0', a', cap', rfl, -, -⟩ := hv
 go_enter Tryz.func135, Tryz.ntmps135
 go_wp2
 go_loopw [5] (fun i wr => ∃ k : Nat, i = .int .i64 (k : Int) ∧ k ≤ es.length ∧ Below w.heap.size w wr) (fun i _ => es.length - (intOf i).toNat)
 case atStart => exact ⟨0, rfl, Nat.zero_le _, Below.refl _ _⟩
 case round =>
  obtain ⟨k, rfl, hk, hb⟩ := hrel
  by_cases hlt : (k : Int) < (es.length : Int)
  ·have hkl : k < es.length := by omega
   obtain ⟨b, off, rfl, hc⟩ := (dU HU wr hb).atEv hkl
   obtain ⟨b', off', rfl, hc'⟩ := (dU HV wr hb).atEv hkl
   have E1 := dH (hc k hkl)
   have E2 := dH (hc' k hkl)
   obtain ⟨c0, c1, c2⟩ := hc k hkl
   obtain ⟨e0, e1, e2⟩ := hc' k hkl
   have CE := dH (eqEvent_same es[k])
   generalize es[k] = y at *
   obtain ⟨y0, y1, y2⟩ := y
   unfold Ev.val at CE
   simp only at *
   clear hc hc' HU HV
   have hbr : Below wr.heap.size wr wr.drew := (Below.refl _ _).drew
   go_wp2_with fail
   go_region_held3 (fun W => (W.cell? ⟨b, off + k * 3, none⟩ = some (.int .i64 y0) ∧ W.cell? ⟨b, off + k * 3 + 1, none⟩ = some (.int .i64 y1) ∧ W.cell? ⟨b, off + k * 3 + 2, none⟩ = some (.string y2)) ∧ W.cell? ⟨b', off' + k * 3, none⟩ = some (.int .i64 y0) ∧ W.cell? ⟨b', off' + k * 3 + 1, none⟩ = some (.int .i64 y1) ∧ W.cell? ⟨b', off' + k * 3 + 2, none⟩ = some (.string y2)) (first | exact ⟨(dU E1).below hb5, (dU E2).below hb5⟩ | go_keep)
    (first
     | (go_at_call 188; refine (dU CE _).mono ?_; rintro r w5 ⟨rfl, b5⟩; have hb5 := bT hbr b5))
   all_goals
    go_wp2
    go_roundw
    case rel => exact ⟨k + 1, by go_num, by omega, bT hb hb5⟩
    case measure => simp [intOf]; omega
  ·clear HU HV
   go_wp2
   go_ret
   exact ⟨rfl, hb⟩
theorem zallEv {w : World} {b off n k : Nat} {f : Nat → Ev} (h : RwZ 3 Ev.cl w b off n f) (hk : k < n) (e : Ev) :
  RwZ 3 Ev.cl (((w.setCell ⟨b, off + k * 3, none⟩ (.int .i64 e.kind)).setCell ⟨b, off + k * 3 + 1, none⟩ (.int .i64 e.pl)).setCell ⟨b, off + k * 3 + 2, none⟩ (.string e.data)) b off n (putZ f k e) := by
 have h1 := h.cell Ev.cl_len hk 0 (by decide) (.int .i64 e.kind) ⟨e.kind, (f k).pl, (f k).data⟩ (by rfl)
 have h2 := h1.cell Ev.cl_len hk 1 (by decide) (.int .i64 e.pl) ⟨e.kind, e.pl, (f k).data⟩ (by simp only [putZ_same]; rfl)
 rw [putZ_twice] at h2
 have h3 := h2.cell Ev.cl_len hk 2 (by decide) (.string e.data) ⟨e.kind, e.pl, e.data⟩ (by simp only [putZ_same]; rfl)
 rw [putZ_twice] at h3
 exact h3
set_option maxHeartbeats 2000000 in
theorem toEventS_own (v : Value) (es : List Ev) (w : World) (hl : es.length ≤ 1048576) (hv : RdEventS v es w) :
  Calls Tryz.prog 105 #[v] w fun r w' => (∃ u, r = .returned u ∧ OwnRw 3 Ev.cl w' w.heap.size u es) ∧ Below w.heap.size w w' := by
 have HV := dH fun W (hb : Below w.heap.size w W) => Rw.below hv hb
 obtain ⟨h0, a, cap, rfl, -, -⟩ := hv
 have hmk := makeEvent es.length (by omega)
 have MZ := dH (madeEvent w es.length)
 generalize madeCells (Value.agg #[.int .i64 0, .int .i64 0, .string ⟨#[]⟩]).cells (es.length * 3) = ZC at *
 go_enter Tryz.func105, Tryz.ntmps105
 go_wp2
 go_loopw [4] (fun x wr => ∃ (k : Nat) (f : Nat → Ev), x = .int .i64 (k : Int) ∧ k ≤ es.length ∧ Hid (RwZ 3 Ev.cl wr w.heap.size 0 es.length f ∧ ∀ i (h : i < es.length), i < k → f i = es[i]) ∧ Below w.heap.size w wr) (fun x _ => es.length - (intOf x).toNat)
 case atStart => exact ⟨0, _, rfl, Nat.zero_le _, ⟨dU MZ, fun i h h' => by omega⟩, (Below.refl _ _).alloc (Nat.le_refl _) _⟩
 case round =>
  obtain ⟨k, f, rfl, hk, hz, hb⟩ := hrel
  by_cases hlt : (k : Int) < (es.length : Int)
  ·have hkl : k < es.length := by omega
   obtain ⟨b, off, rfl, hc⟩ := (dU HV wr hb).atEv hkl
   obtain ⟨c0, c1, c2⟩ := hc k hkl
   have CE := dH fun W => toEvent_any es[k] W
   have hst : Hid (∀ W, Below wr.heap.size wr W → RwZ 3 Ev.cl W w.heap.size 0 es.length f) := fun W hB => (dU hz).1.below hB
   have hin : Hid (∀ i (h : i < es.length), i < k + 1 → putZ f k es[k] i = es[i]) := fun i h h' => by
    unfold putZ
    split
    ·rename_i e; subst e; rfl
    ·rename_i e; exact (dU hz).2 i h (by omega)
   generalize es[k] = y at *
   obtain ⟨y0, y1, y2⟩ := y
   unfold Ev.val at CE
   simp only at *
   clear hc hz
   go_wp2_with fail
   refine (dU CE _).mono ?_
   rintro r w2 ⟨rfl, b2⟩
   have Z2 := dU hst w2 b2
   obtain ⟨z0, f0⟩ := Z2 k hkl 0 _ rfl
   obtain ⟨z1, f1⟩ := Z2 k hkl 1 _ rfl
   obtain ⟨z2, f2⟩ := Z2 k hkl 2 _ rfl
   have Z3 := dH (zallEv Z2 hkl ⟨y0, y1, y2⟩)
   simp only [Nat.zero_add, Nat.add_zero] at z0 z1 z2 f0 f1 f2 Z3
   have hb2 := bT hb b2
   have hb3 := dH (((hb2.setCell (p := ⟨w.heap.size, k * 3, none⟩) (Nat.le_refl _) (.int .i64 y0)).setCell (p := ⟨w.heap.size, k * 3 + 1, none⟩) (Nat.le_refl _) (.int .i64 y1)).setCell (p := ⟨w.heap.size, k * 3 + 2, none⟩) (Nat.le_refl _) (.string y2))
   clear CE b2 c0 c1 c2 hb hst Z2 hb2
   go_wp2
   go_roundw
   case rel => exact ⟨k + 1, _, by go_num, by omega, ⟨dU Z3, dU hin⟩, dU hb3⟩
   case measure => simp [intOf]; omega
  ·have O : Hid (OwnRw 3 Ev.cl wr w.heap.size (.slice (some ⟨w.heap.size, 0, none⟩) es.length es.length) es) := (dU hz).1.own rfl (fun i hi => (dU hz).2 i hi (by omega)) (Nat.le_refl _) (by omega) (by omega)
   clear hz HV
   go_wp2
   go_ret
   exact ⟨⟨_, rfl, dU O⟩, hb⟩
section
variable {w : World} {dT sT elem t : TypeId} {sz : Nat} {dp sp : Option Addr} {dLen dCap sLen sCap g off : Nat} {cur cs : List Value}
variable {ops : Array Oper} {rest : List Oper} {o : Oper} {a : Act} {Q : Exit → Act → World → Prop}
end
section
variable {α : Type} {T TS : TypeId} {z : Value} {sz bytes : Nat} {cl : α → List Value} {w w' : World} {base : Nat} {v : Value} {ms : List α}
theorem zeroCells_size (z : Array Value) (n : Nat) : (Builtin.zeroCells z n).size = n * z.size := by simp [Builtin.zeroCells]
theorem zeroCells_mem (z : Array Value) (n : Nat) : ∀ v ∈ (Builtin.zeroCells z n).toList, v ∈ z.toList := by
 intro v hv
 have hz : 0 < z.size := by
  rcases Nat.eq_zero_or_pos z.size with h | h
  ·simp [Builtin.zeroCells, h] at hv
  ·exact h
 simp only [Builtin.zeroCells, Array.toList_map, List.mem_map] at hv
 obtain ⟨i, -, rfl⟩ := hv
 have := Nat.mod_lt i hz
 rw [getElem!_pos z (i % z.size) this]
 exact Array.getElem_mem_toList this
variable {ops : Array Oper} {rest : List Oper} {o : Oper} {a : Act} {Q : Exit → Act → World → Prop}
end
theorem cloneV_any (v : Value) (rs : List Ev) (w : World) (hv : Rw 3 Ev.cl w v rs) (hl : rs.length ≤ 1048576) :
  Calls Tryz.prog 181 #[v] w fun e w' => (∃ u, e = .returned u ∧ ApR 81 3 Ev.cl w' w.heap.size u rs) ∧ Below w.heap.size w w' := by
 have HV := dH fun W (hb : Below w.heap.size w W) => hv.below hb
 have hv' := hv
 obtain ⟨-, a, cap, rfl, hcap, hc⟩ := hv'
 cases a with
 | none =>
  have e0 : rs = [] := by
   rcases hc with h | ⟨b, off, h, -⟩
   ·exact h
   ·cases h
  subst e0
  have hnil : ∀ w, (binOp .eql 60 (.slice none 0 cap) (.slice none 0 0)).run Tryz.prog w = .ok (.bool true) w := fun w => Go.Lib.run_eql_slice_nil w 60 81 none _ _ 0 0 Tryz.underlying60
  have O : ApR 81 3 Ev.cl w w.heap.size (.slice none 0 0) ([] : List Ev) := .inl ⟨rfl, none, rfl⟩
  clear hv HV hc
  simp only [List.length_nil]
  go_enter Tryz.func181, Tryz.ntmps181
  go_wp2
  go_ret
  exact ⟨⟨_, rfl, O⟩, Below.refl _ _⟩
 | some ad =>
  have B1 := (Below.refl w.heap.size w).alloc (Nat.le_refl _) (.cells #[] 81)
  have hN := dU HV _ B1
  have hnil : ∀ w, (binOp .eql 60 (.slice (some ad) rs.length cap) (.slice none 0 0)).run Tryz.prog w = .ok (.bool false) w := fun w => Go.Lib.run_eql_slice_nil w 60 81 (some ad) _ _ 0 0 Tryz.underlying60
  clear hv HV hc
  go_enter Tryz.func181, Tryz.ntmps181
  go_wp2_with (at_builtin; refine wp_cpR elemEvent rfl _ _ rfl _ rfl _ rs rfl hN (by omega) ?_; intro u w2 O2 b2)
  go_ret
  exact ⟨⟨_, rfl, O2.mono B1.size⟩, bT B1 b2⟩
theorem grwT {w w1 w2 : World} {b : Nat} (h : w.grownBy w1 (some b)) (h' : w1.grownBy w2 (some b)) : w.grownBy w2 (some b) :=
 ⟨h'.os.trans h.os, h'.tape.trans h.tape, h'.output.trans h.output, Nat.le_trans h.size h'.size, fun k hk hn => (h'.block k (Nat.lt_of_lt_of_le hk h.size) hn).trans (h.block k hk hn)⟩
theorem grwR (w : World) (row : Option Nat) : w.grownBy w row := ⟨rfl, rfl, rfl, Nat.le_refl _, fun _ _ _ => rfl⟩
theorem grwOf {w w' : World} {row : Option Nat} (h : Below w.heap.size w w') : w.grownBy w' row := ⟨h.os, h.tape, h.output, h.size, fun j hj _ => h.block j hj⟩
theorem grwS (b : Nat) : ∀ (vs : List Value) (o : Nat) (w : World), w.grownBy (w.setCells b o vs) (some b)
 | [], o, w => grwR w _
 | v :: vs, o, w => grwT (grown_set w b o v) (grwS b vs (o + 1) _)
def flZ {α : Type} (q : α → Bool) (xs : List α) : List α := xs.filter fun z => !(q z)
theorem flZ_yes {α : Type} {q : α → Bool} (xs : List α) (k : Nat) (h : k < xs.length) (hx : q xs[k] = true) : flZ q (xs.take (k + 1)) = flZ q (xs.take k) := by
 rw [flZ, List.take_succ_eq_append_getElem h, List.filter_append]
 simp [flZ, hx]
theorem flZ_no {α : Type} {q : α → Bool} (xs : List α) (k : Nat) (h : k < xs.length) (hx : q xs[k] = false) : flZ q (xs.take (k + 1)) = flZ q (xs.take k) ++ [xs[k]] := by
 rw [flZ, List.take_succ_eq_append_getElem h, List.filter_append]
 simp [flZ, hx]
theorem flZ_same {α : Type} {q : α → Bool} {xs : List α} (h : ∀ x ∈ xs, q x = false) : flZ q xs = xs := by
 unfold flZ
 rw [List.filter_eq_self]
 intro a ha
 simp [h a ha]
theorem flZ_head {α : Type} {q : α → Bool} {xs : List α} {k : Nat} (h : ∀ i (h : i < xs.length), i < k → q xs[i] = false) : flZ q (xs.take k) = xs.take k := flZ_same fun x hm => by
 obtain ⟨i, hi, e⟩ := List.mem_iff_getElem.1 hm
 rw [List.length_take] at hi
 rw [List.getElem_take] at e
 rw [← e]
 exact h i (by omega) (by omega)
def DelZ {α : Type} (q : α → Bool) (xs : List α) (i j : Nat) (ys : List α) : Prop := ys.length = xs.length ∧ i = (flZ q (xs.take j)).length ∧ i < j ∧ j ≤ xs.length ∧ ys.take i = flZ q (xs.take j) ∧ ∀ t (h : t < xs.length) (h' : t < ys.length), j ≤ t → ys[t] = xs[t]
theorem DelZ.start {α : Type} {q : α → Bool} {xs : List α} {k : Nat} (hk : k < xs.length) (h : ∀ i (h : i < xs.length), i < k → q xs[i] = false) (hx : q xs[k] = true) : DelZ q xs k (k + 1) xs := by
 have e1 := flZ_yes xs k hk hx
 have e2 := flZ_head (k := k) h
 refine ⟨rfl, ?_, by omega, by omega, ?_, fun t _ _ _ => rfl⟩
 ·rw [e1, e2, List.length_take]; omega
 ·rw [e1, e2]
theorem DelZ.skip {α : Type} {q : α → Bool} {xs ys : List α} {i j : Nat} (h : DelZ q xs i j ys) (hj : j < xs.length) (hx : q xs[j] = true) : DelZ q xs i (j + 1) ys := by
 obtain ⟨h1, h2, h3, h4, h5, h6⟩ := h
 have e1 := flZ_yes xs j hj hx
 exact ⟨h1, by rw [e1]; exact h2, by omega, by omega, by rw [e1]; exact h5, fun t ht ht' hjt => h6 t ht ht' (by omega)⟩
theorem DelZ.keep {α : Type} {q : α → Bool} {xs ys : List α} {i j : Nat} (h : DelZ q xs i j ys) (hj : j < xs.length) (hx : q xs[j] = false) : DelZ q xs (i + 1) (j + 1) (ys.set i xs[j]) := by
 obtain ⟨h1, h2, h3, h4, h5, h6⟩ := h
 have e1 := flZ_no xs j hj hx
 refine ⟨by rw [List.length_set]; exact h1, by rw [e1, List.length_append, ← h2]; rfl, by omega, by omega, ?_, fun t ht ht' hjt => ?_⟩
 ·rw [e1, ← h5, List.take_succ_eq_append_getElem (by rw [List.length_set]; omega), List.getElem_set_self, List.take_set_of_le (Nat.le_refl _)]
 ·rw [List.getElem_set_ne (by omega)]
  exact h6 t ht (by rw [List.length_set] at ht'; exact ht') (by omega)
theorem run_clearRows {α : Type} {T TS : TypeId} {z : Value} {sz bytes : Nat} {cl : α → List Value} (E : Elem T TS z sz bytes cl) (ty : TypeId) (hz1 : ∀ u ∈ z.cells.toList, u.oneCell' = true) (w : World) (b o n c : Nat) (hn : 0 < n)
  (hc : ∀ j, j < n * sz → (w.cell? ⟨b, o + j, none⟩).isSome = true) (hf : ∀ j, j < n * sz → w.frozen? ⟨b, o + j, none⟩ = false) :
  (Builtin.clear_ #[TS] ty #[.slice (some ⟨b, o, none⟩) n c]).run Tryz.prog w = .ok (.tuple #[]) (w.setCells b o (Builtin.zeroCells z.cells n).toList) := by
 obtain ⟨i0, hi, hz0, hzs, hzb⟩ := info_parts E.info
 have hsz : (Builtin.zeroCells z.cells n).toList.length = n * sz := by rw [Array.length_toList, zeroCells_size, E.zcells]
 have hst := run_storeCells_cells (P := Tryz.prog) b o (Builtin.zeroCells z.cells n).toList 0 w (by simpa [hsz] using hc) (by simpa [hsz] using hf) (fun u hu => hz1 u (zeroCells_mem _ _ u hu))
 obtain ⟨m, rfl⟩ : ∃ m, n = m + 1 := ⟨n - 1, by omega⟩
 simp only [Nat.add_zero] at hst
 simp [Builtin.clear_, run_underlying E.under, zeroValue, typeInfo, hi, hz0, hst]
structure Rr where
 epoch : Int
 off : Int
 out : List Ev
def RdReader (v : Value) (m : Rr) (W : World) : Prop := ∃ sv, v = .agg #[.int .i64 m.epoch, .int .i64 m.off, sv] ∧ RdEventS sv m.out W
def OwReader (lo hi : Nat) (v : Value) (m : Rr) (W : World) : Prop := ∃ sv, v = .agg #[.int .i64 m.epoch, .int .i64 m.off, sv] ∧ OwEventS lo hi sv m.out W
def sizReader (m : Rr) : Nat := sizEventS m.out
theorem OwReader.rd {lo hi : Nat} {v : Value} {m : Rr} {W : World} (h : OwReader lo hi v m W) : RdReader v m W := by
 obtain ⟨sv, h1, h2⟩ := h
 exact ⟨sv, h1, OwEventS.rd h2⟩
theorem RdReader.below {v : Value} {m : Rr} {W W' : World} (h : RdReader v m W) (b : Below W.heap.size W W') : RdReader v m W' := by
 obtain ⟨sv, h1, h2⟩ := h
 exact ⟨sv, h1, RdEventS.below h2 b⟩
theorem formReader {v : Value} {m : Rr} {W : World} (h : RdReader v m W) : ∃ a cap, v = .agg #[.int .i64 m.epoch, .int .i64 m.off, .slice a m.out.length cap] ∧ m.out.length ≤ 9223372036854775807 := by
 obtain ⟨sv, rfl, h⟩ := h
 obtain ⟨a, cap, rfl, h0⟩ := formEventS h
 exact ⟨a, cap, rfl, h0⟩
theorem OwReader.sits {lo hi : Nat} {w : World} {v : Value} {m : Rr} (h : OwReader lo hi v m w) (hf : hi ≤ w.heap.size) : Sits (OwReader lo hi v m) lo hi w := by
 obtain ⟨sv, h1, h2⟩ := h
 have s2 := OwG.sits h2 hf
 exact ⟨hf, fun W hW => ⟨sv, h1, s2.all W hW⟩⟩
theorem szReader_ (v : Value) (m : Rr) (left : Int) (l0 : 0 ≤ left) (l1 : left ≤ 1048576) (ht : txtEv m.out) (w : World) (h : RdReader v m w) :
  Calls Tryz.prog 59 #[v, .int .i64 left] w fun e w' => e = .returned (.int .i64 (lft left (sizReader m))) ∧ Below w.heap.size w w' := by
 have hb0 : ∀ o, Below w.heap.size w (w.alloc o) := fun o => (Below.refl _ _).alloc (Nat.le_refl _) o
 obtain ⟨sv, rfl, h⟩ := h
 have C1 := dH fun W (hb : Below w.heap.size w W) => szEventS_ sv m.out left l0 l1 ht W (RdEventS.below h hb)
 obtain ⟨a, cap, rfl, -⟩ := formEventS h
 have e0 : sizReader m = sizEventS m.out := rfl
 rw [e0]
 have hL : lft left (sizEventS m.out) < 0 → lft left (sizEventS m.out) = -1 := fun h => by
  unfold lft at h ⊢
  split
  ·rfl
  ·rename_i h2; rw [if_neg h2] at h; omega
 generalize lft left (sizEventS m.out) = M at *
 have HL := dH hL
 clear hL h e0 ht
 go_enter Tryz.func59, Tryz.ntmps59
 go_wp2_with fail
 refine (dU C1 _ (hb0 _)).mono ?_
 rintro r w1 ⟨rfl, b1⟩
 have B1 := bT (hb0 _) b1
 clear b1 hb0 C1
 by_cases hM : M < 0
 ·have e1 := dU HL hM
  subst e1
  go_wp2
  go_ret
  exact ⟨rfl, B1⟩
 ·go_wp2
  go_ret
  exact ⟨rfl, B1⟩
set_option maxHeartbeats 2000000 in
theorem eqReader_ (u v : Value) (m : Rr) (w : World) (hu : RdReader u m w) (hv : RdReader v m w) :
  Calls Tryz.prog 80 #[u, v] w fun e w' => e = .returned (.bool true) ∧ Below w.heap.size w w' := by
 have hb0 : ∀ o o', Below w.heap.size w ((w.alloc o).alloc o') := fun o o' => ((Below.refl _ _).alloc (Nat.le_refl _) o).alloc (by simp) o'
 obtain ⟨su, rfl, hu⟩ := hu
 obtain ⟨sv, rfl, hv⟩ := hv
 have C1 := dH fun W (hb : Below w.heap.size w W) => eqEventS_ su sv m.out W (RdEventS.below hu hb) (RdEventS.below hv hb)
 obtain ⟨a, cap, rfl, -⟩ := formEventS hu
 obtain ⟨a', cap', rfl, -⟩ := formEventS hv
 generalize m.epoch = sl at *
 generalize m.off = so at *
 have X0 := (Bx.new w [.int .i64 sl, .int .i64 so, .slice a m.out.length cap] 62).below ((Below.refl _ _).alloc (Nat.le_refl _) (.cells #[.int .i64 sl, .int .i64 so, .slice a' m.out.length cap'] 62))
 have Y0 := Bx.new (w.alloc (.cells #[.int .i64 sl, .int .i64 so, .slice a m.out.length cap] 62)) [.int .i64 sl, .int .i64 so, .slice a' m.out.length cap'] 62
 have e1 : (w.alloc (.cells #[.int .i64 sl, .int .i64 so, .slice a m.out.length cap] 62)).heap.size = w.heap.size + 1 := by simp
 rw [e1] at Y0
 clear e1 hu hv
 go_enter Tryz.func80, Tryz.ntmps80
 go_wp2_with fail
 refine (dU C1 _ (hb0 _ _)).mono ?_
 rintro e w1 ⟨rfl, b1⟩
 have B1 := bT (hb0 _ _) b1
 clear X0 Y0 b1 hb0 C1
 go_wp2
 go_ret
 exact ⟨rfl, B1⟩
set_option maxHeartbeats 4000000 in
theorem toReader_ (v : Value) (m : Rr) (w : World) (hl : sizReader m ≤ 1048576) (h : RdReader v m w) :
  Calls Tryz.prog 70 #[v] w fun e w' => ∃ u, e = .returned u ∧ Sits (OwReader w.heap.size w'.heap.size u m) w.heap.size w'.heap.size w' ∧ Below w.heap.size w w' := by
 have ba : ∀ (w : World) o, Below w.heap.size w (w.alloc o) := fun w o => (Below.refl _ _).alloc (Nat.le_refl _) o
 obtain ⟨sv, rfl, h⟩ := h
 have C1 := dH fun W (hb : Below w.heap.size w W) => toEventS_own sv m.out W (by unfold sizReader sizEventS at hl; omega) (RdEventS.below h hb)
 obtain ⟨pa, pc, rfl, -⟩ := formEventS h
 have EX : Hid (∀ (W : World) (u : Value), OwEventS w.heap.size W.heap.size u m.out W → Sits (OwReader w.heap.size W.heap.size (.agg #[.int .i64 m.epoch, .int .i64 m.off, u]) m) w.heap.size W.heap.size W) := fun W u o => OwReader.sits ⟨u, rfl, o⟩ (Nat.le_refl _)
 generalize m.epoch = yl at *
 generalize m.off = yo at *
 generalize m.out = ms at *
 have X0 := (Bx.new w [.int .i64 yl, .int .i64 yo, .slice pa ms.length pc] 105).below (bT (ba _ (.cells #[.int .i64 0, .int .i64 0, .slice none 0 0] 62)) (ba _ (.cells #[.int .i64 yl, .int .i64 yo, .slice none 0 0] 62)))
 have Y0 := (BxZ.new (B := w.heap.size) (w.alloc (.cells #[.int .i64 yl, .int .i64 yo, .slice pa ms.length pc] 105)) [.int .i64 0, .int .i64 0, .slice none 0 0] 62 (by simp)).below (ba _ (.cells #[.int .i64 yl, .int .i64 yo, .slice none 0 0] 62))
 have Z0 := BxZ.new (B := w.heap.size) ((w.alloc (.cells #[.int .i64 yl, .int .i64 yo, .slice pa ms.length pc] 105)).alloc (.cells #[.int .i64 0, .int .i64 0, .slice none 0 0] 62)) [.int .i64 yl, .int .i64 yo, .slice none 0 0] 62 (by simp <;> omega)
 have B0 := bT (bT (ba w (.cells #[.int .i64 yl, .int .i64 yo, .slice pa ms.length pc] 105)) (ba _ (.cells #[.int .i64 0, .int .i64 0, .slice none 0 0] 62))) (ba _ (.cells #[.int .i64 yl, .int .i64 yo, .slice none 0 0] 62))
 have e1 : (w.alloc (.cells #[.int .i64 yl, .int .i64 yo, .slice pa ms.length pc] 105)).heap.size = w.heap.size + 1 := by simp
 have e2 : ((w.alloc (.cells #[.int .i64 yl, .int .i64 yo, .slice pa ms.length pc] 105)).alloc (.cells #[.int .i64 0, .int .i64 0, .slice none 0 0] 62)).heap.size = w.heap.size + 1 + 1 := by simp
 rw [e1] at Y0
 rw [e2] at Z0
 clear e1 e2 h hl
 go_enter Tryz.func70, Tryz.ntmps70
 go_wp2_with fail
 generalize ((w.alloc (.cells #[.int .i64 yl, .int .i64 yo, .slice pa ms.length pc] 105)).alloc (.cells #[.int .i64 0, .int .i64 0, .slice none 0 0] 62)).alloc (.cells #[.int .i64 yl, .int .i64 yo, .slice none 0 0] 62) = w0 at *
 have hlt := Z0.lt
 refine (dU C1 _ B0).mono ?_
 rintro r w1 ⟨⟨u1, rfl, O1⟩, b1⟩
 have hs1 := b1.size
 obtain ⟨a1, c1, rfl, -⟩ := formEventS (OwnRw.rw O1)
 have B1 := bT B0 b1
 have Y1 := Y0.below b1
 have Z1 := Z0.below b1
 obtain ⟨z0, f0⟩ := Z1.2 0 _ rfl
 obtain ⟨z1, f1⟩ := Z1.2 1 _ rfl
 obtain ⟨z2, f2⟩ := Z1.2 2 _ rfl
 obtain ⟨y0, p0⟩ := Y1.2 0 _ rfl
 obtain ⟨y1, p1⟩ := Y1.2 1 _ rfl
 obtain ⟨y2, p2⟩ := Y1.2 2 _ rfl
 have YY := dH ((((Y1.far (b' := w.heap.size + 1 + 1) (o := 2) (by omega) (.slice a1 ms.length c1)).put 0 (.int .i64 yl)).put 1 (.int .i64 yo)).put 2 (.slice a1 ms.length c1))
 have OO := dH ((((O1.farZ (b' := w.heap.size + 1 + 1) (o := 2) (by omega) (.slice a1 ms.length c1)).farZ (b' := w.heap.size + 1) (o := 0) (by omega) (.int .i64 yl)).farZ (b' := w.heap.size + 1) (o := 1) (by omega) (.int .i64 yo)).farZ (b' := w.heap.size + 1) (o := 2) (by omega) (.slice a1 ms.length c1))
 have BB := dH ((((B1.setCell (p := ⟨w.heap.size + 1 + 1, 2, none⟩) (by simp only; omega) (.slice a1 ms.length c1)).setCell (p := ⟨w.heap.size + 1, 0, none⟩) (by simp only; omega) (.int .i64 yl)).setCell (p := ⟨w.heap.size + 1, 1, none⟩) (by simp only; omega) (.int .i64 yo)).setCell (p := ⟨w.heap.size + 1, 2, none⟩) (by simp only; omega) (.slice a1 ms.length c1))
 have w0le : w.heap.size ≤ w0.heap.size := by omega
 clear X0 Y0 Z0 B0 C1 b1 O1 Y1 Z1 B1
 go_wp2_with fail
 generalize ((((w1.setCell ⟨w.heap.size + 1 + 1, 2, none⟩ (.slice a1 ms.length c1)).setCell ⟨w.heap.size + 1, 0, none⟩ (.int .i64 yl)).setCell ⟨w.heap.size + 1, 1, none⟩ (.int .i64 yo)).setCell ⟨w.heap.size + 1, 2, none⟩ (.slice a1 ms.length c1)) = V at *
 have q0 := ((dU YY).2 0 _ rfl).1
 have q1 := ((dU YY).2 1 _ rfl).1
 have q2 := ((dU YY).2 2 _ rfl).1
 clear z0 z1 z2 f0 f1 f2 y0 y1 y2 p0 p1 p2
 have OV := (dU OO).mono w0le
 refine bodyPost_ret (v := .agg #[.int .i64 yl, .int .i64 yo, .slice a1 ms.length c1]) (by simp [results, Tryz.results70, go_sem, q0, q1, q2]) rfl ⟨_, rfl, dU EX V _ ⟨OV, OV.ltZ Ev.cl_len (by decide)⟩, dU BB⟩
end Go.Proofs.YtekgkjomdpjkbaaGreat
