/- Several texts in one: MpS, PutW, JgA, AwS, CpP, NxD. -/
import Derived.Test.YtfnhiiiimglnnaaGreatGaA
import Derived.Carry
import Derived.MapKept
import Derived.WalkKit
import Derived.Deep.MidRow
import Derived.Test.YtfnhiiiimglnnaaGreatGaD
import Derived.Deep.RegionHeld3
import Derived.Deep.DeepCutAuto
import Derived.Test.YtfnhiiiimglnnaaGreatGz19
import Derived.Test.YtfnhiiiimglnnaaGreatGaT
import Derived.Test.YtfnhiiiimglnnaaGreatGbP
import Derived.Laws.CopyOwn
import Derived.Test.YtfnhiiiimglnnaaGreatGz17
import Derived.Laws.IdiomCopy
import Derived.Lib.SliceRun
namespace Go.Proofs.YtfnhiiiimglnnaaGreat
open Go.ChangeShapes Go.WideShapes Go.ChangeAt Go.RowKit
set_option linter.unusedSimpArgs false
set_option linter.unusedVariables false
set_option maxRecDepth 100000
theorem putMap {w : World} {b B : Nat} {es : Array MapEntry} {c : Nat} (h0 : w.heap[b]? = some (.map es c)) (hB : B ≤ b) (o : Obj) :
  ({ w with heap := w.heap.setIfInBounds b o } : World).heap[b]? = some o ∧ ({ w with heap := w.heap.setIfInBounds b o } : World).heap.size = w.heap.size ∧ (∀ k, k ≠ b → ({ w with heap := w.heap.setIfInBounds b o } : World).heap[k]? = w.heap[k]?) ∧ Below B w { w with heap := w.heap.setIfInBounds b o } := by
 have hlt : b < w.heap.size := (Array.getElem?_eq_some_iff.1 h0).1
 have ho : ∀ k, k ≠ b → ({ w with heap := w.heap.setIfInBounds b o } : World).heap[k]? = w.heap[k]? := fun k hk => by simp [Array.getElem?_setIfInBounds_ne (Ne.symm hk)]
 exact ⟨by simp [hlt], by simp, ho, rfl, rfl, rfl, by simp, fun k hk => ho k (by omega)⟩
theorem op_insertS {w : World} {o : Oper} {a : Act} {Q : Exit → Act → World → Prop} {K : Act → World → Prop} (T KT ET : TypeId) (m k x : Operand) (hop : o.op = .insert T m k x) (hd : o.dst = none) {b B c : Nat} {es : Array MapEntry} (s : ByteArray) (v : Value) (hm : a.eval m = .map (some b)) (hk : a.eval k = .string s) (hx : a.eval x = v)
  (hu : Tryz.prog.underlying T = some (.map KT ET)) (hs : Tryz.prog.underlying KT = some .string) (h0 : w.heap[b]? = some (.map es c)) (hB : B ≤ b) (hf : Instr.findNow .string (.string s) es.toList 0 = some none)
  (h : ∀ w', w'.heap[b]? = some (.map (es.push { key := .string s, val := v, born := c }) (c + 1)) → w'.heap.size = w.heap.size → (∀ k, k ≠ b → w'.heap[k]? = w.heap[k]?) → Below B w w' → K a w') : Oper.wp Tryz.prog o a w K Q := by
 obtain ⟨q1, q2, q3, q4⟩ := putMap (o := .map (es.push { key := .string s, val := v, born := c }) (c + 1)) h0 hB
 have hh := h _ q1 q2 q3 q4
 have hr : (Instr.mapUpdate T (.map (some b)) (.string s) v).run Tryz.prog w = .ok () { w with heap := w.heap.setIfInBounds b (.map (es.push { key := .string s, val := v, born := c }) (c + 1)) } := by
  simp [Instr.mapUpdate, run_underlying hu, MapKept.run_getObj_map h0, MapKept.run_checkKey (k := .string s) hs trivial, MapKept.run_findKey hs hf, MapKept.run_setObj_map _ h0]
 unfold Oper.wp execOp
 simp only [hop, hm, hk, hx, Sem.run_bind, Sem.run_pure, hr, Result.andThen_ok]
 rw [← show a.put o.dst undef = a by rw [hd]; rfl] at hh
 exact hh
theorem wp_insertS {w : World} {ops : Array Oper} {rest : List Oper} {o : Oper} {a : Act} {Q : Exit → Act → World → Prop} (hgd : o.guard = none) (T KT ET : TypeId) (m k x : Operand) (hop : o.op = .insert T m k x) (hd : o.dst = none) {b B c : Nat} {es : Array MapEntry} (s : ByteArray) (v : Value) (hm : a.eval m = .map (some b)) (hk : a.eval k = .string s) (hx : a.eval x = v)
  (hu : Tryz.prog.underlying T = some (.map KT ET)) (hs : Tryz.prog.underlying KT = some .string) (h0 : w.heap[b]? = some (.map es c)) (hB : B ≤ b) (hf : Instr.findNow .string (.string s) es.toList 0 = some none)
  (h : ∀ w', w'.heap[b]? = some (.map (es.push { key := .string s, val := v, born := c }) (c + 1)) → w'.heap.size = w.heap.size → (∀ k, k ≠ b → w'.heap[k]? = w.heap[k]?) → Below B w w' → wpList Tryz.prog ops Q rest a w') : wpList Tryz.prog ops Q (o :: rest) a w :=
 wpList_plain hgd fun K' hK' => op_insertS T KT ET m k x hop hd s v hm hk hx hu hs h0 hB hf fun w' q1 q2 q3 q4 => hK' _ _ (h w' q1 q2 q3 q4)
theorem wp_deleteS {w : World} {ops : Array Oper} {rest : List Oper} {o : Oper} {a : Act} {Q : Exit → Act → World → Prop} (hgd : o.guard = none) (T KT ET : TypeId) (m k : Operand) (hop : o.op = .call { callee := .builtin .delete, args := #[m, k], argTypes := #[T, KT] }) (hd : o.dst = none) {b B c i : Nat} {es : Array MapEntry} (s : ByteArray) (hm : a.eval m = .map (some b)) (hk : a.eval k = .string s)
  (hu : Tryz.prog.underlying T = some (.map KT ET)) (hs : Tryz.prog.underlying KT = some .string) (h0 : w.heap[b]? = some (.map es c)) (hB : B ≤ b) (hf' : (Instr.findNow .string (.string s) es.toList 0).map (Option.map Prod.fst) = some (some i))
  (h : ∀ w', w'.heap[b]? = some (.map (es.eraseIdxIfInBounds i) c) → w'.heap.size = w.heap.size → (∀ k, k ≠ b → w'.heap[k]? = w.heap[k]?) → Below B w w' → wpList Tryz.prog ops Q rest a w') : wpList Tryz.prog ops Q (o :: rest) a w := by
 obtain ⟨v, hf⟩ : ∃ v, Instr.findNow .string (.string s) es.toList 0 = some (some (i, v)) := by
  rcases hq : Instr.findNow .string (.string s) es.toList 0 with _ | _ | ⟨j, v⟩ <;> simp [hq] at hf'
  exact ⟨v, by rw [hf']⟩
 refine wpList_plain hgd fun K' hK' => ?_
 obtain ⟨q1, q2, q3, q4⟩ := putMap (o := .map (es.eraseIdxIfInBounds i) c) h0 hB
 have hh := hK' _ _ (h _ q1 q2 q3 q4)
 have hr : (Builtin.delete_ #[T, KT] o.type #[.map (some b), .string s]).run Tryz.prog w = .ok (.tuple #[]) { w with heap := w.heap.setIfInBounds b (.map (es.eraseIdxIfInBounds i) c) } := by
  simp [Builtin.delete_, run_underlying hu, MapKept.run_getObj_map h0, MapKept.run_checkKey (k := .string s) hs trivial, MapKept.run_findKey hs hf, MapKept.run_setObj_map _ h0]
 unfold Oper.wp
 simp [execOp, hop, resolve, invoke, builtin, hm, hk, hr, Result.andThen, Oper.upon]
 rw [← show a.put o.dst (.tuple #[]) = a by rw [hd]; rfl] at hh
 exact hh
theorem Bx.off {w w' : World} {b c : Nat} {vs : List Value} (h : Bx w b vs) (g : ∀ k, k ≠ c → w'.heap[k]? = w.heap[k]?) (hb : b ≠ c) : Bx w' b vs := fun i v hv => (World.cell?_of_block (a := ⟨b, i, none⟩) (g b hb)).trans (h i v hv)
theorem BxZ.off {w w' : World} {B b c : Nat} {vs : List Value} (h : BxZ w B b vs) (g : ∀ k, k ≠ c → w'.heap[k]? = w.heap[k]?) (hb : b ≠ c) : BxZ w' B b vs := ⟨h.1, fun i v hv => ⟨(World.cell?_of_block (a := ⟨b, i, none⟩) (g b hb)).trans (h.2 i v hv).1, (World.frozen?_of_block (a := ⟨b, i, none⟩) (g b hb)).trans (h.2 i v hv).2⟩⟩
theorem Sits.off {P : World → Prop} {lo hi c : Nat} {w w' : World} (h : Sits P lo hi w) (g : ∀ k, k ≠ c → w'.heap[k]? = w.heap[k]?) (hb : c < lo ∨ hi ≤ c) (hs : w'.heap.size = w.heap.size) : Sits P lo hi w' :=
 ⟨by rw [hs]; exact h.fit, fun W hW => h.all W fun k h1 h2 => (hW k h1 h2).trans (g k (by omega))⟩
def judgesE (bx : Nat) (torn : Bool) : Array MapEntry := if torn then #[{ key := .string ⟨#[111, 114, 100, 101, 114]⟩, val := .func (.func 115) #[] #[.pointer (some ⟨bx, 0, none⟩)], born := 0 }, { key := .string ⟨#[116, 114, 117, 101]⟩, val := .func (.func 118) #[] #[.pointer (some ⟨bx, 0, none⟩)], born := 1 }] else #[{ key := .string ⟨#[111, 114, 100, 101, 114]⟩, val := .func (.func 115) #[] #[.pointer (some ⟨bx, 0, none⟩)], born := 0 }, { key := .string ⟨#[116, 114, 117, 101]⟩, val := .func (.func 118) #[] #[.pointer (some ⟨bx, 0, none⟩)], born := 1 }, { key := .string ⟨#[107, 101, 112, 116]⟩, val := .func (.func 121) #[] #[.pointer (some ⟨bx, 0, none⟩)], born := 2 }, { key := .string ⟨#[119, 104, 111, 108, 101]⟩, val := .func (.func 124) #[] #[.pointer (some ⟨bx, 0, none⟩)], born := 3 }, { key := .string ⟨#[115, 97, 109, 101]⟩, val := .func (.func 127) #[] #[.pointer (some ⟨bx, 0, none⟩)], born := 4 }]
set_option maxHeartbeats 4000000 in
theorem implJudges_t (dv sv lv ev wv nv rv tv : Value) (cop tr : Int) (w : World) :
  Calls Tryz.prog 73 #[.agg #[dv, .int .i64 cop, sv, lv, ev, .int .i64 tr, wv, nv, rv, tv, .bool true]] w fun e w' => (∃ b, e = .returned (.map (some b)) ∧ w'.heap[b]? = some (.map (judgesE w.heap.size true) 5) ∧ Bx w' w.heap.size [dv, .int .i64 cop, sv, lv, ev, .int .i64 tr, wv, nv, rv, tv, .bool true]) ∧ Below w.heap.size w w' := by
 have hmm := @run_makeMap Tryz.prog
 have ba : ∀ (w : World) o, Below w.heap.size w (w.alloc o) := fun w o => (Below.refl _ _).alloc (Nat.le_refl _) o
 have B := bT (ba w (.cells #[dv, .int .i64 cop, sv, lv, ev, .int .i64 tr, wv, nv, rv, tv, .bool true] 47)) (ba _ (.map #[] 0))
 have X := (Bx.new w [dv, .int .i64 cop, sv, lv, ev, .int .i64 tr, wv, nv, rv, tv, .bool true] 47).below (ba _ (.map #[] 0))
 have M : ((w.alloc (.cells #[dv, .int .i64 cop, sv, lv, ev, .int .i64 tr, wv, nv, rv, tv, .bool true] 47)).alloc (.map #[] 0)).heap[w.heap.size + 1]? = some (.map #[] 0) := heap_alloc2_new _ _ _
 have kt := X 10 _ rfl
 go_enter Tryz.func73, Tryz.ntmps73
 go_wp2_with (first | (refine wp_insertS rfl _ _ _ _ _ _ rfl rfl _ _ rfl rfl rfl Tryz.underlying124 Tryz.underlying9 M (B := w.heap.size) (Nat.le_add_right _ _) (by kernel_rfl) ?_; clear M kt; intro wd M s g b; replace X := X.off g (by omega); replace B := B.trans b; clear s g b; have kt := X 10 _ rfl) | (refine wp_deleteS rfl _ _ _ _ _ rfl rfl (i := 2) _ rfl rfl Tryz.underlying124 Tryz.underlying9 M (B := w.heap.size) (Nat.le_add_right _ _) (by kernel_rfl) ?_; clear M kt; intro wd M s g b; replace X := X.off g (by omega); replace B := B.trans b; clear s g b; have kt := X 10 _ rfl))
 go_ret
 exact ⟨⟨_, rfl, M.trans (by kernel_rfl), X⟩, B⟩
set_option maxHeartbeats 4000000 in
theorem implJudges_f (dv sv lv ev wv nv rv tv : Value) (cop tr : Int) (w : World) :
  Calls Tryz.prog 73 #[.agg #[dv, .int .i64 cop, sv, lv, ev, .int .i64 tr, wv, nv, rv, tv, .bool false]] w fun e w' => (∃ b, e = .returned (.map (some b)) ∧ w'.heap[b]? = some (.map (judgesE w.heap.size false) 5) ∧ Bx w' w.heap.size [dv, .int .i64 cop, sv, lv, ev, .int .i64 tr, wv, nv, rv, tv, .bool false]) ∧ Below w.heap.size w w' := by
 have hmm := @run_makeMap Tryz.prog
 have ba : ∀ (w : World) o, Below w.heap.size w (w.alloc o) := fun w o => (Below.refl _ _).alloc (Nat.le_refl _) o
 have B := bT (ba w (.cells #[dv, .int .i64 cop, sv, lv, ev, .int .i64 tr, wv, nv, rv, tv, .bool false] 47)) (ba _ (.map #[] 0))
 have X := (Bx.new w [dv, .int .i64 cop, sv, lv, ev, .int .i64 tr, wv, nv, rv, tv, .bool false] 47).below (ba _ (.map #[] 0))
 have M : ((w.alloc (.cells #[dv, .int .i64 cop, sv, lv, ev, .int .i64 tr, wv, nv, rv, tv, .bool false] 47)).alloc (.map #[] 0)).heap[w.heap.size + 1]? = some (.map #[] 0) := heap_alloc2_new _ _ _
 have kt := X 10 _ rfl
 go_enter Tryz.func73, Tryz.ntmps73
 go_wp2_with (first | (refine wp_insertS rfl _ _ _ _ _ _ rfl rfl _ _ rfl rfl rfl Tryz.underlying124 Tryz.underlying9 M (B := w.heap.size) (Nat.le_add_right _ _) (by kernel_rfl) ?_; clear M kt; intro wd M s g b; replace X := X.off g (by omega); replace B := B.trans b; clear s g b; have kt := X 10 _ rfl) | (refine wp_deleteS rfl _ _ _ _ _ rfl rfl (i := 2) _ rfl rfl Tryz.underlying124 Tryz.underlying9 M (B := w.heap.size) (Nat.le_add_right _ _) (by kernel_rfl) ?_; clear M kt; intro wd M s g b; replace X := X.off g (by omega); replace B := B.trans b; clear s g b; have kt := X 10 _ rfl))
 go_ret
 exact ⟨⟨_, rfl, M.trans (by kernel_rfl), X⟩, B⟩
structure Aw where
 node : Int
 has : Bool
 ent : Ent
def Aw.cl (e : Aw) : List Value := [.int .i64 e.node, .bool e.has, .int .i64 e.ent.pl, .int .i64 e.ent.wave, .bool e.ent.hole, .string e.ent.data]
def Aw.val (e : Aw) : Value := .agg #[.int .i64 e.node, .bool e.has, .int .i64 e.ent.pl, .int .i64 e.ent.wave, .bool e.ent.hole, .string e.ent.data]
theorem Aw.cl_len (e : Aw) : e.cl.length = 6 := rfl
def AwAt (w : World) (b o : Nat) (e : Aw) : Prop := w.cell? ⟨b, o, none⟩ = some (.int .i64 e.node) ∧ w.cell? ⟨b, o + 1, none⟩ = some (.bool e.has) ∧ w.cell? ⟨b, o + 2, none⟩ = some (.int .i64 e.ent.pl) ∧ w.cell? ⟨b, o + 3, none⟩ = some (.int .i64 e.ent.wave) ∧ w.cell? ⟨b, o + 4, none⟩ = some (.bool e.ent.hole) ∧ w.cell? ⟨b, o + 5, none⟩ = some (.string e.ent.data)
theorem AwAt.below {w w' : World} {b o : Nat} {e : Aw} (h : AwAt w b o e) (hb : Below w.heap.size w w') : AwAt w' b o e := by
 obtain ⟨h0, h1, h2, h3, h4, h5⟩ := h
 exact ⟨(hb.cell (p := ⟨b, o, none⟩) (dCell_lt h0)).trans h0, (hb.cell (p := ⟨b, o + 1, none⟩) (dCell_lt h1)).trans h1, (hb.cell (p := ⟨b, o + 2, none⟩) (dCell_lt h2)).trans h2, (hb.cell (p := ⟨b, o + 3, none⟩) (dCell_lt h3)).trans h3, (hb.cell (p := ⟨b, o + 4, none⟩) (dCell_lt h4)).trans h4, (hb.cell (p := ⟨b, o + 5, none⟩) (dCell_lt h5)).trans h5⟩
def RdAnswerS (v : Value) (m : List Aw) (W : World) : Prop := Rw 6 Aw.cl W v m
def OwAnswerS (lo hi : Nat) (v : Value) (m : List Aw) (W : World) : Prop := OwG 6 Aw.cl lo hi v m W
theorem OwAnswerS.rd {lo hi : Nat} {v : Value} {m : List Aw} {W : World} (h : OwAnswerS lo hi v m W) : RdAnswerS v m W := OwnRw.rw h.1
theorem RdAnswerS.below {v : Value} {m : List Aw} {W W' : World} (h : RdAnswerS v m W) (b : Below W.heap.size W W') : RdAnswerS v m W' := Rw.below h b
section
variable {w : World} {dT sT elem t : TypeId} {sz : Nat} {dp sp : Option Addr} {dLen dCap sLen sCap g off : Nat} {cur cs : List Value}
variable {ops : Array Oper} {rest : List Oper} {o : Oper} {a : Act} {Q : Exit → Act → World → Prop}
end
section
variable {α : Type} {T TS : TypeId} {z : Value} {sz bytes : Nat} {cl : α → List Value} {w w' : World} {base : Nat} {v : Value} {ms : List α}
theorem zeroCells_size (z : Array Value) (n : Nat) : (Builtin.zeroCells z n).size = n * z.size := by simp [Builtin.zeroCells]
theorem zeroCells_mem (z : Array Value) (n : Nat) : ∀ v ∈ (Builtin.zeroCells z n).toList, v ∈ z.toList := by
 intro v hv
 have hz : 0 < z.size := by
  rcases Nat.eq_zero_or_pos z.size with h | h
  ·simp [Builtin.zeroCells, h] at hv
  ·exact h
 simp only [Builtin.zeroCells, Array.toList_map, List.mem_map] at hv
 obtain ⟨i, -, rfl⟩ := hv
 have := Nat.mod_lt i hz
 rw [getElem!_pos z (i % z.size) this]
 exact Array.getElem_mem_toList this
variable {ops : Array Oper} {rest : List Oper} {o : Oper} {a : Act} {Q : Exit → Act → World → Prop}
end
theorem cloneV_any (v : Value) (rs : List Ev) (w : World) (hv : Rw 3 Ev.cl w v rs) (hl : rs.length ≤ 1048576) :
  Calls Tryz.prog 181 #[v] w fun e w' => (∃ u, e = .returned u ∧ ApR 81 3 Ev.cl w' w.heap.size u rs) ∧ Below w.heap.size w w' := by
 have HV := dH fun W (hb : Below w.heap.size w W) => hv.below hb
 have hv' := hv
 obtain ⟨-, a, cap, rfl, hcap, hc⟩ := hv'
 cases a with
 | none =>
  have e0 : rs = [] := by
   rcases hc with h | ⟨b, off, h, -⟩
   ·exact h
   ·cases h
  subst e0
  have hnil : ∀ w, (binOp .eql 60 (.slice none 0 cap) (.slice none 0 0)).run Tryz.prog w = .ok (.bool true) w := fun w => Go.Lib.run_eql_slice_nil w 60 81 none _ _ 0 0 Tryz.underlying60
  have O : ApR 81 3 Ev.cl w w.heap.size (.slice none 0 0) ([] : List Ev) := .inl ⟨rfl, none, rfl⟩
  clear hv HV hc
  simp only [List.length_nil]
  go_enter Tryz.func181, Tryz.ntmps181
  go_wp2
  go_ret
  exact ⟨⟨_, rfl, O⟩, Below.refl _ _⟩
 | some ad =>
  have B1 := (Below.refl w.heap.size w).alloc (Nat.le_refl _) (.cells #[] 81)
  have hN := dU HV _ B1
  have hnil : ∀ w, (binOp .eql 60 (.slice (some ad) rs.length cap) (.slice none 0 0)).run Tryz.prog w = .ok (.bool false) w := fun w => Go.Lib.run_eql_slice_nil w 60 81 (some ad) _ _ 0 0 Tryz.underlying60
  clear hv HV hc
  go_enter Tryz.func181, Tryz.ntmps181
  go_wp2_with (at_builtin; refine wp_cpR elemEvent rfl _ _ rfl _ rfl _ rs rfl hN (by omega) ?_; intro u w2 O2 b2)
  go_ret
  exact ⟨⟨_, rfl, O2.mono B1.size⟩, bT B1 b2⟩
theorem grwT {w w1 w2 : World} {b : Nat} (h : w.grownBy w1 (some b)) (h' : w1.grownBy w2 (some b)) : w.grownBy w2 (some b) :=
 ⟨h'.os.trans h.os, h'.tape.trans h.tape, h'.output.trans h.output, Nat.le_trans h.size h'.size, fun k hk hn => (h'.block k (Nat.lt_of_lt_of_le hk h.size) hn).trans (h.block k hk hn)⟩
theorem grwR (w : World) (row : Option Nat) : w.grownBy w row := ⟨rfl, rfl, rfl, Nat.le_refl _, fun _ _ _ => rfl⟩
theorem grwOf {w w' : World} {row : Option Nat} (h : Below w.heap.size w w') : w.grownBy w' row := ⟨h.os, h.tape, h.output, h.size, fun j hj _ => h.block j hj⟩
theorem grwS (b : Nat) : ∀ (vs : List Value) (o : Nat) (w : World), w.grownBy (w.setCells b o vs) (some b)
 | [], o, w => grwR w _
 | v :: vs, o, w => grwT (grown_set w b o v) (grwS b vs (o + 1) _)
def flZ {α : Type} (q : α → Bool) (xs : List α) : List α := xs.filter fun z => !(q z)
theorem flZ_yes {α : Type} {q : α → Bool} (xs : List α) (k : Nat) (h : k < xs.length) (hx : q xs[k] = true) : flZ q (xs.take (k + 1)) = flZ q (xs.take k) := by
 rw [flZ, List.take_succ_eq_append_getElem h, List.filter_append]
 simp [flZ, hx]
theorem flZ_no {α : Type} {q : α → Bool} (xs : List α) (k : Nat) (h : k < xs.length) (hx : q xs[k] = false) : flZ q (xs.take (k + 1)) = flZ q (xs.take k) ++ [xs[k]] := by
 rw [flZ, List.take_succ_eq_append_getElem h, List.filter_append]
 simp [flZ, hx]
theorem flZ_same {α : Type} {q : α → Bool} {xs : List α} (h : ∀ x ∈ xs, q x = false) : flZ q xs = xs := by
 unfold flZ
 rw [List.filter_eq_self]
 intro a ha
 simp [h a ha]
theorem flZ_head {α : Type} {q : α → Bool} {xs : List α} {k : Nat} (h : ∀ i (h : i < xs.length), i < k → q xs[i] = false) : flZ q (xs.take k) = xs.take k := flZ_same fun x hm => by
 obtain ⟨i, hi, e⟩ := List.mem_iff_getElem.1 hm
 rw [List.length_take] at hi
 rw [List.getElem_take] at e
 rw [← e]
 exact h i (by omega) (by omega)
def DelZ {α : Type} (q : α → Bool) (xs : List α) (i j : Nat) (ys : List α) : Prop := ys.length = xs.length ∧ i = (flZ q (xs.take j)).length ∧ i < j ∧ j ≤ xs.length ∧ ys.take i = flZ q (xs.take j) ∧ ∀ t (h : t < xs.length) (h' : t < ys.length), j ≤ t → ys[t] = xs[t]
theorem DelZ.start {α : Type} {q : α → Bool} {xs : List α} {k : Nat} (hk : k < xs.length) (h : ∀ i (h : i < xs.length), i < k → q xs[i] = false) (hx : q xs[k] = true) : DelZ q xs k (k + 1) xs := by
 have e1 := flZ_yes xs k hk hx
 have e2 := flZ_head (k := k) h
 refine ⟨rfl, ?_, by omega, by omega, ?_, fun t _ _ _ => rfl⟩
 ·rw [e1, e2, List.length_take]; omega
 ·rw [e1, e2]
theorem DelZ.skip {α : Type} {q : α → Bool} {xs ys : List α} {i j : Nat} (h : DelZ q xs i j ys) (hj : j < xs.length) (hx : q xs[j] = true) : DelZ q xs i (j + 1) ys := by
 obtain ⟨h1, h2, h3, h4, h5, h6⟩ := h
 have e1 := flZ_yes xs j hj hx
 exact ⟨h1, by rw [e1]; exact h2, by omega, by omega, by rw [e1]; exact h5, fun t ht ht' hjt => h6 t ht ht' (by omega)⟩
theorem DelZ.keep {α : Type} {q : α → Bool} {xs ys : List α} {i j : Nat} (h : DelZ q xs i j ys) (hj : j < xs.length) (hx : q xs[j] = false) : DelZ q xs (i + 1) (j + 1) (ys.set i xs[j]) := by
 obtain ⟨h1, h2, h3, h4, h5, h6⟩ := h
 have e1 := flZ_no xs j hj hx
 refine ⟨by rw [List.length_set]; exact h1, by rw [e1, List.length_append, ← h2]; rfl, by omega, by omega, ?_, fun t ht ht' hjt => ?_⟩
 ·rw [e1, ← h5, List.take_succ_eq_append_getElem (by rw [List.length_set]; omega), List.getElem_set_self, List.take_set_of_le (Nat.le_refl _)]
 ·rw [List.getElem_set_ne (by omega)]
  exact h6 t ht (by rw [List.length_set] at ht'; exact ht') (by omega)
theorem run_clearRows {α : Type} {T TS : TypeId} {z : Value} {sz bytes : Nat} {cl : α → List Value} (E : Elem T TS z sz bytes cl) (ty : TypeId) (hz1 : ∀ u ∈ z.cells.toList, u.oneCell' = true) (w : World) (b o n c : Nat) (hn : 0 < n)
  (hc : ∀ j, j < n * sz → (w.cell? ⟨b, o + j, none⟩).isSome = true) (hf : ∀ j, j < n * sz → w.frozen? ⟨b, o + j, none⟩ = false) :
  (Builtin.clear_ #[TS] ty #[.slice (some ⟨b, o, none⟩) n c]).run Tryz.prog w = .ok (.tuple #[]) (w.setCells b o (Builtin.zeroCells z.cells n).toList) := by
 obtain ⟨i0, hi, hz0, hzs, hzb⟩ := info_parts E.info
 have hsz : (Builtin.zeroCells z.cells n).toList.length = n * sz := by rw [Array.length_toList, zeroCells_size, E.zcells]
 have hst := run_storeCells_cells (P := Tryz.prog) b o (Builtin.zeroCells z.cells n).toList 0 w (by simpa [hsz] using hc) (by simpa [hsz] using hf) (fun u hu => hz1 u (zeroCells_mem _ _ u hu))
 obtain ⟨m, rfl⟩ : ∃ m, n = m + 1 := ⟨n - 1, by omega⟩
 simp only [Nat.add_zero] at hst
 simp [Builtin.clear_, run_underlying E.under, zeroValue, typeInfo, hi, hz0, hst]
end Go.Proofs.YtfnhiiiimglnnaaGreat
