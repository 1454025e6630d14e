/- Several texts in one: StB, StC, EntO, OpenK, OpenE, PutW, MpS, JgA, DeA, DeB. -/
import Derived.Test.YtodfgehicpejgaaGreatDoorGk171
import Derived.Test.YtodfgehicpejgaaGreatDoorGk172
import Derived.Deep.RegionHeld3
import Derived.Test.YtodfgehicpejgaaGreatDoorGk179
import Derived.Deep.MidRow
import Derived.WalkKit
import Derived.Carry
import Derived.MapKept
import Derived.Deep.DeepCutAuto
namespace Go.Proofs.YtodfgehicpejgaaGreatDoor
open Go.ChangeShapes Go.WideShapes Go.ChangeAt Go.RowKit
set_option linter.unusedSimpArgs false
set_option linter.unusedVariables false
set_option maxRecDepth 100000
def fitS (s : St) : Prop := fitE s.kept ∧ fitE s.late ∧ -9223372036854775808 ≤ s.lock ∧ s.lock ≤ 9223372036854775807
def Rs (w : World) (v : Value) (s : St) : Prop := ∃ kv lv, v = .agg #[kv, lv, .int .i64 s.lock] ∧ Rw 4 Ent.cl w kv s.kept ∧ Rw 4 Ent.cl w lv s.late
theorem Rs.below {w w' : World} {v : Value} {s : St} (h : Rs w v s) (hb : Below w.heap.size w w') : Rs w' v s := by
 obtain ⟨kv, lv, h1, h2, h3⟩ := h
 exact ⟨kv, lv, h1, h2.below hb, h3.below hb⟩
variable {H : Type} {enc : TypeId × Value → H} {W : World} {r : Reach} {b0 base : Nat} {sp : Nat → Bool} {held : Bool} {v : Value} {d : DataW H} {p : List MemPlace}
variable {H : Type} {enc : TypeId × Value → H} {W : World} {r : Reach} {b0 base : Nat} {sp : Nat → Bool} {held : Bool} {v : Value} {d : DataW H} {p : List MemPlace}
variable {H : Type} {enc : TypeId × Value → H} {W : World} {r : Reach} {b0 base : Nat} {sp : Nat → Bool} {held : Bool} {v : Value} {d : DataW H} {p : List MemPlace}
theorem below_setCells {B b : Nat} {w : World} (hB : B ≤ b) : ∀ (vs : List Value) (o : Nat) (w' : World), Below B w w' → Below B w (w'.setCells b o vs)
 | [], _, _, h => h
 | v :: r, o, w', h => below_setCells hB r (o + 1) _ (h.setCell (p := ⟨b, o, none⟩) hB v)
theorem setCells_size (b : Nat) : ∀ (vs : List Value) (o : Nat) (w : World), (w.setCells b o vs).heap.size = w.heap.size
 | [], _, _ => rfl
 | v :: r, o, w => by rw [World.setCells, setCells_size b r]; simp
theorem setCells_block (b : Nat) {x : Nat} (h : x ≠ b) : ∀ (vs : List Value) (o : Nat) (w : World), (w.setCells b o vs).heap[x]? = w.heap[x]?
 | [], _, _ => rfl
 | v :: r, o, w => by rw [World.setCells, setCells_block b h r]; exact Below.heap_setCell _ _ _ x (by simp only; omega)
theorem op_putW {w : World} {o : Oper} {a : Act} {Q : Exit → Act → World → Prop} {K : Act → World → Prop} (T : TypeId) (p x : Operand) (hop : o.op = .store T p x) (hd : o.dst = none) {B b : Nat} {os : List Value} (vs : List Value) (hp : a.eval p = .pointer (some ⟨b, 0, none⟩)) (hx : a.eval x = .agg vs.toArray)
  (hY : BxZ w B b os) (hl : os.length = vs.length) (hi : (Tryz.prog.info? T).map (·.size) = some vs.toArray.size) (h1 : vs.toArray.all (·.oneCell') = true)
  (h : ∀ w', BxZ w' B b vs → w'.heap.size = w.heap.size → (∀ k, k ≠ b → w'.heap[k]? = w.heap[k]?) → Below B w w' → K a w') : Oper.wp Tryz.prog o a w K Q := by
 have ht : w.there b 0 vs.toArray.size := fun j hj => by
  have hj' : j < os.length := by simpa [hl] using hj
  have q := hY.2 j os[j] (by simp [hj'])
  simp only [Nat.zero_add]
  exact ⟨by rw [q.1]; rfl, q.2⟩
 have hr := run_storeAt_mid (P := Tryz.prog) w b 0 T vs.toArray ht hi h1
 have hc : ∀ j, j < vs.length → (w.cell? ⟨b, 0 + j, none⟩).isSome = true := fun j hj => (ht j (by simpa using hj)).1
 have Y : BxZ (w.setCells b 0 vs) B b vs := ⟨hY.1, fun i v hv => by
  obtain ⟨hi', rfl⟩ := List.getElem?_eq_some_iff.1 hv
  have hz := hY.2 i os[i] (by simp [hl, hi'])
  have e := World.cell?_setCells_in b vs 0 w hc i hi'
  rw [Nat.zero_add] at e
  exact ⟨e, (World.frozen?_setCells b vs 0 w _).trans hz.2⟩⟩
 have hh := h (w.setCells b 0 vs) Y (setCells_size b vs 0 w) (fun k hk => setCells_block b hk vs 0 w) (below_setCells hY.1 vs 0 w (Below.refl _ _))
 exact wp_store_mid T p x hop b 0 vs.toArray hp hx ht hi h1 (by rw [hd]; exact hh)
theorem wp_putW {w : World} {ops : Array Oper} {rest : List Oper} {o : Oper} {a : Act} {Q : Exit → Act → World → Prop} (hgd : o.guard = none) (T : TypeId) (p x : Operand) (hop : o.op = .store T p x) (hd : o.dst = none) {B b : Nat} {os : List Value} (vs : List Value) (hp : a.eval p = .pointer (some ⟨b, 0, none⟩)) (hx : a.eval x = .agg vs.toArray)
  (hY : BxZ w B b os) (hl : os.length = vs.length) (hi : (Tryz.prog.info? T).map (·.size) = some vs.toArray.size) (h1 : vs.toArray.all (·.oneCell') = true)
  (h : ∀ w', BxZ w' B b vs → w'.heap.size = w.heap.size → (∀ k, k ≠ b → w'.heap[k]? = w.heap[k]?) → Below B w w' → wpList Tryz.prog ops Q rest a w') : wpList Tryz.prog ops Q (o :: rest) a w :=
 wpList_plain hgd fun K' hK' => op_putW T p x hop hd vs hp hx hY hl hi h1 fun w' q1 q2 q3 q4 => hK' _ _ (h w' q1 q2 q3 q4)
theorem step_putW {w : World} {ops : Array Oper} {o : Oper} {a : Act} {Q : Exit → Act → World → Prop} {K : Act → World → Prop} {F : Prop} (hg : o.guard = none) (T : TypeId) (p x : Operand) (hop : o.op = .store T p x) (hd : o.dst = none) {B b : Nat} {os : List Value} (vs : List Value) (hp : a.eval p = .pointer (some ⟨b, 0, none⟩)) (hx : a.eval x = .agg vs.toArray)
  (hY : BxZ w B b os) (hl : os.length = vs.length) (hi : (Tryz.prog.info? T).map (·.size) = some vs.toArray.size) (h1 : vs.toArray.all (·.oneCell') = true)
  (h : ∀ w', BxZ w' B b vs → w'.heap.size = w.heap.size → (∀ k, k ≠ b → w'.heap[k]? = w.heap[k]?) → Below B w w' → K a w') :
  if Region.wanted o (yielded ops a.tmps) = true then Oper.wp Tryz.prog o a w K Q else F := by
 have hw : Region.wanted o (yielded ops a.tmps) = true := by simp [Region.wanted, hg]
 rw [if_pos hw]
 exact op_putW T p x hop hd vs hp hx hY hl hi h1 h
theorem Bx.off {w w' : World} {b c : Nat} {vs : List Value} (h : Bx w b vs) (g : ∀ k, k ≠ c → w'.heap[k]? = w.heap[k]?) (hb : b ≠ c) : Bx w' b vs := fun i v hv => (World.cell?_of_block (a := ⟨b, i, none⟩) (g b hb)).trans (h i v hv)
theorem BxZ.off {w w' : World} {B b c : Nat} {vs : List Value} (h : BxZ w B b vs) (g : ∀ k, k ≠ c → w'.heap[k]? = w.heap[k]?) (hb : b ≠ c) : BxZ w' B b vs := ⟨h.1, fun i v hv => ⟨(World.cell?_of_block (a := ⟨b, i, none⟩) (g b hb)).trans (h.2 i v hv).1, (World.frozen?_of_block (a := ⟨b, i, none⟩) (g b hb)).trans (h.2 i v hv).2⟩⟩
theorem Sits.off {P : World → Prop} {lo hi c : Nat} {w w' : World} (h : Sits P lo hi w) (g : ∀ k, k ≠ c → w'.heap[k]? = w.heap[k]?) (hb : c < lo ∨ hi ≤ c) (hs : w'.heap.size = w.heap.size) : Sits P lo hi w' :=
 ⟨by rw [hs]; exact h.fit, fun W hW => h.all W fun k h1 h2 => (hW k h1 h2).trans (g k (by omega))⟩
theorem results_box {fn : Func} {p : Tmp} {ty : TypeId} (h : fn.results = #[.cell p ty]) (tmps : Array Value) (w : World) (b : Nat) (vs : List Value) (d : TypeDesc) (hp : tmps.getD p undef = .pointer (some ⟨b, 0, none⟩)) (hX : Bx w b vs) (hu : Tryz.prog.underlying ty = some d) (hd : d.isRow = true) (hi : (Tryz.prog.info? ty).map (·.size) = some vs.length) :
  (results fn tmps).run Tryz.prog w = .ok (.agg vs.toArray) w := by
 have hp' : tmps[p]?.getD undef = .pointer (some ⟨b, 0, none⟩) := by simpa using hp
 have hl := run_loadVar_mid (P := Tryz.prog) w b 0 ty vs d (fun j v hv => by rw [Nat.zero_add]; exact hX j v hv) hu hd hi
 simp [results, h, hp', asAddr, hl]
theorem putMap {w : World} {b B : Nat} {es : Array MapEntry} {c : Nat} (h0 : w.heap[b]? = some (.map es c)) (hB : B ≤ b) (o : Obj) :
  ({ w with heap := w.heap.setIfInBounds b o } : World).heap[b]? = some o ∧ ({ w with heap := w.heap.setIfInBounds b o } : World).heap.size = w.heap.size ∧ (∀ k, k ≠ b → ({ w with heap := w.heap.setIfInBounds b o } : World).heap[k]? = w.heap[k]?) ∧ Below B w { w with heap := w.heap.setIfInBounds b o } := by
 have hlt : b < w.heap.size := (Array.getElem?_eq_some_iff.1 h0).1
 have ho : ∀ k, k ≠ b → ({ w with heap := w.heap.setIfInBounds b o } : World).heap[k]? = w.heap[k]? := fun k hk => by simp [Array.getElem?_setIfInBounds_ne (Ne.symm hk)]
 exact ⟨by simp [hlt], by simp, ho, rfl, rfl, rfl, by simp, fun k hk => ho k (by omega)⟩
theorem op_insertS {w : World} {o : Oper} {a : Act} {Q : Exit → Act → World → Prop} {K : Act → World → Prop} (T KT ET : TypeId) (m k x : Operand) (hop : o.op = .insert T m k x) (hd : o.dst = none) {b B c : Nat} {es : Array MapEntry} (s : ByteArray) (v : Value) (hm : a.eval m = .map (some b)) (hk : a.eval k = .string s) (hx : a.eval x = v)
  (hu : Tryz.prog.underlying T = some (.map KT ET)) (hs : Tryz.prog.underlying KT = some .string) (h0 : w.heap[b]? = some (.map es c)) (hB : B ≤ b) (hf : Instr.findNow .string (.string s) es.toList 0 = some none)
  (h : ∀ w', w'.heap[b]? = some (.map (es.push { key := .string s, val := v, born := c }) (c + 1)) → w'.heap.size = w.heap.size → (∀ k, k ≠ b → w'.heap[k]? = w.heap[k]?) → Below B w w' → K a w') : Oper.wp Tryz.prog o a w K Q := by
 obtain ⟨q1, q2, q3, q4⟩ := putMap (o := .map (es.push { key := .string s, val := v, born := c }) (c + 1)) h0 hB
 have hh := h _ q1 q2 q3 q4
 have hr : (Instr.mapUpdate T (.map (some b)) (.string s) v).run Tryz.prog w = .ok () { w with heap := w.heap.setIfInBounds b (.map (es.push { key := .string s, val := v, born := c }) (c + 1)) } := by
  simp [Instr.mapUpdate, run_underlying hu, MapKept.run_getObj_map h0, MapKept.run_checkKey (k := .string s) hs trivial, MapKept.run_findKey hs hf, MapKept.run_setObj_map _ h0]
 unfold Oper.wp execOp
 simp only [hop, hm, hk, hx, Sem.run_bind, Sem.run_pure, hr, Result.andThen_ok]
 rw [← show a.put o.dst undef = a by rw [hd]; rfl] at hh
 exact hh
theorem wp_insertS {w : World} {ops : Array Oper} {rest : List Oper} {o : Oper} {a : Act} {Q : Exit → Act → World → Prop} (hgd : o.guard = none) (T KT ET : TypeId) (m k x : Operand) (hop : o.op = .insert T m k x) (hd : o.dst = none) {b B c : Nat} {es : Array MapEntry} (s : ByteArray) (v : Value) (hm : a.eval m = .map (some b)) (hk : a.eval k = .string s) (hx : a.eval x = v)
  (hu : Tryz.prog.underlying T = some (.map KT ET)) (hs : Tryz.prog.underlying KT = some .string) (h0 : w.heap[b]? = some (.map es c)) (hB : B ≤ b) (hf : Instr.findNow .string (.string s) es.toList 0 = some none)
  (h : ∀ w', w'.heap[b]? = some (.map (es.push { key := .string s, val := v, born := c }) (c + 1)) → w'.heap.size = w.heap.size → (∀ k, k ≠ b → w'.heap[k]? = w.heap[k]?) → Below B w w' → wpList Tryz.prog ops Q rest a w') : wpList Tryz.prog ops Q (o :: rest) a w :=
 wpList_plain hgd fun K' hK' => op_insertS T KT ET m k x hop hd s v hm hk hx hu hs h0 hB hf fun w' q1 q2 q3 q4 => hK' _ _ (h w' q1 q2 q3 q4)
theorem wp_deleteS {w : World} {ops : Array Oper} {rest : List Oper} {o : Oper} {a : Act} {Q : Exit → Act → World → Prop} (hgd : o.guard = none) (T KT ET : TypeId) (m k : Operand) (hop : o.op = .call { callee := .builtin .delete, args := #[m, k], argTypes := #[T, KT] }) (hd : o.dst = none) {b B c i : Nat} {es : Array MapEntry} (s : ByteArray) (hm : a.eval m = .map (some b)) (hk : a.eval k = .string s)
  (hu : Tryz.prog.underlying T = some (.map KT ET)) (hs : Tryz.prog.underlying KT = some .string) (h0 : w.heap[b]? = some (.map es c)) (hB : B ≤ b) (hf' : (Instr.findNow .string (.string s) es.toList 0).map (Option.map Prod.fst) = some (some i))
  (h : ∀ w', w'.heap[b]? = some (.map (es.eraseIdxIfInBounds i) c) → w'.heap.size = w.heap.size → (∀ k, k ≠ b → w'.heap[k]? = w.heap[k]?) → Below B w w' → wpList Tryz.prog ops Q rest a w') : wpList Tryz.prog ops Q (o :: rest) a w := by
 obtain ⟨v, hf⟩ : ∃ v, Instr.findNow .string (.string s) es.toList 0 = some (some (i, v)) := by
  rcases hq : Instr.findNow .string (.string s) es.toList 0 with _ | _ | ⟨j, v⟩ <;> simp [hq] at hf'
  exact ⟨v, by rw [hf']⟩
 refine wpList_plain hgd fun K' hK' => ?_
 obtain ⟨q1, q2, q3, q4⟩ := putMap (o := .map (es.eraseIdxIfInBounds i) c) h0 hB
 have hh := hK' _ _ (h _ q1 q2 q3 q4)
 have hr : (Builtin.delete_ #[T, KT] o.type #[.map (some b), .string s]).run Tryz.prog w = .ok (.tuple #[]) { w with heap := w.heap.setIfInBounds b (.map (es.eraseIdxIfInBounds i) c) } := by
  simp [Builtin.delete_, run_underlying hu, MapKept.run_getObj_map h0, MapKept.run_checkKey (k := .string s) hs trivial, MapKept.run_findKey hs hf, MapKept.run_setObj_map _ h0]
 unfold Oper.wp
 simp [execOp, hop, resolve, invoke, builtin, hm, hk, hr, Result.andThen, Oper.upon]
 rw [← show a.put o.dst (.tuple #[]) = a by rw [hd]; rfl] at hh
 exact hh
def judgesE (bx : Nat) (torn : Bool) : Array MapEntry := if torn then #[{ key := .string ⟨#[111, 114, 100, 101, 114]⟩, val := .func (.func 162) #[] #[.pointer (some ⟨bx, 0, none⟩)], born := 0 }, { key := .string ⟨#[116, 114, 117, 101]⟩, val := .func (.func 164) #[] #[.pointer (some ⟨bx, 0, none⟩)], born := 1 }] else #[{ key := .string ⟨#[111, 114, 100, 101, 114]⟩, val := .func (.func 162) #[] #[.pointer (some ⟨bx, 0, none⟩)], born := 0 }, { key := .string ⟨#[116, 114, 117, 101]⟩, val := .func (.func 164) #[] #[.pointer (some ⟨bx, 0, none⟩)], born := 1 }, { key := .string ⟨#[107, 101, 112, 116]⟩, val := .func (.func 167) #[] #[.pointer (some ⟨bx, 0, none⟩)], born := 2 }, { key := .string ⟨#[119, 104, 111, 108, 101]⟩, val := .func (.func 170) #[] #[.pointer (some ⟨bx, 0, none⟩)], born := 3 }, { key := .string ⟨#[115, 97, 109, 101]⟩, val := .func (.func 173) #[] #[.pointer (some ⟨bx, 0, none⟩)], born := 4 }]
set_option maxHeartbeats 4000000 in
theorem implJudges_t (dv sv lv ev wv nv rv tv : Value) (cop tr : Int) (w : World) :
  Calls Tryz.prog 88 #[.agg #[dv, .int .i64 cop, sv, lv, ev, .int .i64 tr, wv, nv, rv, tv, .bool true]] w fun e w' => (∃ b, e = .returned (.map (some b)) ∧ w'.heap[b]? = some (.map (judgesE w.heap.size true) 5) ∧ Bx w' w.heap.size [dv, .int .i64 cop, sv, lv, ev, .int .i64 tr, wv, nv, rv, tv, .bool true]) ∧ Below w.heap.size w w' := by
 have hmm := @run_makeMap Tryz.prog
 have ba : ∀ (w : World) o, Below w.heap.size w (w.alloc o) := fun w o => (Below.refl _ _).alloc (Nat.le_refl _) o
 have B := bT (ba w (.cells #[dv, .int .i64 cop, sv, lv, ev, .int .i64 tr, wv, nv, rv, tv, .bool true] 37)) (ba _ (.map #[] 0))
 have X := (Bx.new w [dv, .int .i64 cop, sv, lv, ev, .int .i64 tr, wv, nv, rv, tv, .bool true] 37).below (ba _ (.map #[] 0))
 have M : ((w.alloc (.cells #[dv, .int .i64 cop, sv, lv, ev, .int .i64 tr, wv, nv, rv, tv, .bool true] 37)).alloc (.map #[] 0)).heap[w.heap.size + 1]? = some (.map #[] 0) := heap_alloc2_new _ _ _
 have kt := X 10 _ rfl
 go_enter Tryz.func88, Tryz.ntmps88
 go_wp2_with (first | (refine wp_insertS rfl _ _ _ _ _ _ rfl rfl _ _ rfl rfl rfl Tryz.underlying121 Tryz.underlying9 M (B := w.heap.size) (Nat.le_add_right _ _) (by kernel_rfl) ?_; clear M kt; intro wd M s g b; replace X := X.off g (by omega); replace B := B.trans b; clear s g b; have kt := X 10 _ rfl) | (refine wp_deleteS rfl _ _ _ _ _ rfl rfl (i := 2) _ rfl rfl Tryz.underlying121 Tryz.underlying9 M (B := w.heap.size) (Nat.le_add_right _ _) (by kernel_rfl) ?_; clear M kt; intro wd M s g b; replace X := X.off g (by omega); replace B := B.trans b; clear s g b; have kt := X 10 _ rfl))
 go_ret
 exact ⟨⟨_, rfl, M.trans (by kernel_rfl), X⟩, B⟩
set_option maxHeartbeats 4000000 in
theorem implJudges_f (dv sv lv ev wv nv rv tv : Value) (cop tr : Int) (w : World) :
  Calls Tryz.prog 88 #[.agg #[dv, .int .i64 cop, sv, lv, ev, .int .i64 tr, wv, nv, rv, tv, .bool false]] w fun e w' => (∃ b, e = .returned (.map (some b)) ∧ w'.heap[b]? = some (.map (judgesE w.heap.size false) 5) ∧ Bx w' w.heap.size [dv, .int .i64 cop, sv, lv, ev, .int .i64 tr, wv, nv, rv, tv, .bool false]) ∧ Below w.heap.size w w' := by
 have hmm := @run_makeMap Tryz.prog
 have ba : ∀ (w : World) o, Below w.heap.size w (w.alloc o) := fun w o => (Below.refl _ _).alloc (Nat.le_refl _) o
 have B := bT (ba w (.cells #[dv, .int .i64 cop, sv, lv, ev, .int .i64 tr, wv, nv, rv, tv, .bool false] 37)) (ba _ (.map #[] 0))
 have X := (Bx.new w [dv, .int .i64 cop, sv, lv, ev, .int .i64 tr, wv, nv, rv, tv, .bool false] 37).below (ba _ (.map #[] 0))
 have M : ((w.alloc (.cells #[dv, .int .i64 cop, sv, lv, ev, .int .i64 tr, wv, nv, rv, tv, .bool false] 37)).alloc (.map #[] 0)).heap[w.heap.size + 1]? = some (.map #[] 0) := heap_alloc2_new _ _ _
 have kt := X 10 _ rfl
 go_enter Tryz.func88, Tryz.ntmps88
 go_wp2_with (first | (refine wp_insertS rfl _ _ _ _ _ _ rfl rfl _ _ rfl rfl rfl Tryz.underlying121 Tryz.underlying9 M (B := w.heap.size) (Nat.le_add_right _ _) (by kernel_rfl) ?_; clear M kt; intro wd M s g b; replace X := X.off g (by omega); replace B := B.trans b; clear s g b; have kt := X 10 _ rfl) | (refine wp_deleteS rfl _ _ _ _ _ rfl rfl (i := 2) _ rfl rfl Tryz.underlying121 Tryz.underlying9 M (B := w.heap.size) (Nat.le_add_right _ _) (by kernel_rfl) ?_; clear M kt; intro wd M s g b; replace X := X.off g (by omega); replace B := B.trans b; clear s g b; have kt := X 10 _ rfl))
 go_ret
 exact ⟨⟨_, rfl, M.trans (by kernel_rfl), X⟩, B⟩
structure De where
 k : Int
 a : Int
 b : Int
 c : Int
 t : ByteArray
def De.val (d : De) : Value := .agg #[.int .i64 d.k, .int .i64 d.a, .int .i64 d.b, .int .i64 d.c, .string d.t]
def nmL : List Nat := [0, 1, 9, 7, 1, 3, 1, 1, 0, 1, 0, 6, 0, 1, 3, 1, 1]
def nm (k : Int) : Nat := nmL.getD k.toNat 0
def dropD (n : Nat) (d : De) : De := ⟨d.k, if n % 2 = 1 then 0 else d.a, if n / 2 % 2 = 1 then 0 else d.b, if n / 4 % 2 = 1 then 0 else d.c, if n / 8 % 2 = 1 then ⟨#[]⟩ else d.t⟩
set_option maxHeartbeats 8000000 in
theorem implWithout_any (d : De) (n : Nat) (h : n = 0 ∨ n = 1 ∨ n = 3 ∨ n = 6 ∨ n = 7 ∨ n = 9) (w : World) :
  Calls Tryz.prog 37 #[d.val, .int .i64 (n : Int)] w fun e w' => e = .returned (dropD n d).val ∧ Below w.heap.size w w' := by
 obtain ⟨k, a, b, c, t⟩ := d
 rcases h with rfl | rfl | rfl | rfl | rfl | rfl
 all_goals
  simp only [dropD, De.val]
  simp
  go_enter Tryz.func37, Tryz.ntmps37
  go_wp2
  go_returns
  exact ⟨rfl, by go_grown⟩
theorem eqDeed_eq {d d' : De} (h : d = d') (w : World) : (binOp .eql 45 d.val d'.val).run Tryz.prog w = .ok (.bool true) w := by
 subst h
 obtain ⟨k, a, b, c, t⟩ := d
 unfold De.val
 go_simp
def kindsL : List Value := [.int .i64 0, .nilFunc, .int .i64 1, .func (.func 48) #[] #[], .int .i64 9, .func (.func 49) #[] #[], .int .i64 7, .func (.func 50) #[] #[], .int .i64 1, .func (.func 51) #[] #[], .int .i64 3, .func (.func 52) #[] #[], .int .i64 1, .func (.func 53) #[] #[], .int .i64 1, .func (.func 54) #[] #[], .int .i64 0, .func (.func 55) #[] #[], .int .i64 1, .func (.func 56) #[] #[], .int .i64 0, .func (.func 57) #[] #[], .int .i64 6, .func (.func 58) #[] #[], .int .i64 0, .func (.func 59) #[] #[], .int .i64 1, .func (.func 60) #[] #[], .int .i64 3, .func (.func 61) #[] #[], .int .i64 1, .func (.func 62) #[] #[], .int .i64 1, .func (.func 63) #[] #[]]
set_option maxHeartbeats 8000000 in
theorem implKinds_any (w : World) :
  Calls Tryz.prog 22 #[] w fun e w' => e = .returned (.agg kindsL.toArray) ∧ Below w.heap.size w w' := by
 have Y0 := BxZ.new w [.int .i64 0, .nilFunc, .int .i64 0, .nilFunc, .int .i64 0, .nilFunc, .int .i64 0, .nilFunc, .int .i64 0, .nilFunc, .int .i64 0, .nilFunc, .int .i64 0, .nilFunc, .int .i64 0, .nilFunc, .int .i64 0, .nilFunc, .int .i64 0, .nilFunc, .int .i64 0, .nilFunc, .int .i64 0, .nilFunc, .int .i64 0, .nilFunc, .int .i64 0, .nilFunc, .int .i64 0, .nilFunc, .int .i64 0, .nilFunc, .int .i64 0, .nilFunc] 62 (B := w.heap.size) (Nat.le_refl _)
 have B0 : Below w.heap.size w (w.alloc (.cells #[.int .i64 0, .nilFunc, .int .i64 0, .nilFunc, .int .i64 0, .nilFunc, .int .i64 0, .nilFunc, .int .i64 0, .nilFunc, .int .i64 0, .nilFunc, .int .i64 0, .nilFunc, .int .i64 0, .nilFunc, .int .i64 0, .nilFunc, .int .i64 0, .nilFunc, .int .i64 0, .nilFunc, .int .i64 0, .nilFunc, .int .i64 0, .nilFunc, .int .i64 0, .nilFunc, .int .i64 0, .nilFunc, .int .i64 0, .nilFunc, .int .i64 0, .nilFunc] 62)) := (Below.refl _ _).alloc (Nat.le_refl _) _
 go_enter Tryz.func22, Tryz.ntmps22
 go_wp2_with (refine wp_putW rfl _ _ _ rfl rfl kindsL rfl rfl Y0 rfl (by kernel_rfl) (by kernel_rfl) ?_; intro w2 Y2 s2 g2 b2)
 refine bodyPost_ret (results_box Tryz.results22 _ _ _ kindsL _ rfl Y2.bx Tryz.underlying62 rfl (by kernel_rfl)) rfl ⟨rfl, B0.trans b2⟩
theorem kinds_at (n : Nat) (h : 1 ≤ n ∧ n ≤ 16) : kindsL[n * 2]? = some (.int .i64 ((nmL.getD n 0 : Nat) : Int)) := by
 have h16 : n = 1 ∨ n = 2 ∨ n = 3 ∨ n = 4 ∨ n = 5 ∨ n = 6 ∨ n = 7 ∨ n = 8 ∨ n = 9 ∨ n = 10 ∨ n = 11 ∨ n = 12 ∨ n = 13 ∨ n = 14 ∨ n = 15 ∨ n = 16 := by omega
 rcases h16 with rfl | rfl | rfl | rfl | rfl | rfl | rfl | rfl | rfl | rfl | rfl | rfl | rfl | rfl | rfl | rfl <;> rfl
theorem nm_of (n : Nat) (h : 1 ≤ n ∧ n ≤ 16) : nmL.getD n 0 = 0 ∨ nmL.getD n 0 = 1 ∨ nmL.getD n 0 = 3 ∨ nmL.getD n 0 = 6 ∨ nmL.getD n 0 = 7 ∨ nmL.getD n 0 = 9 := by
 have h16 : n = 1 ∨ n = 2 ∨ n = 3 ∨ n = 4 ∨ n = 5 ∨ n = 6 ∨ n = 7 ∨ n = 8 ∨ n = 9 ∨ n = 10 ∨ n = 11 ∨ n = 12 ∨ n = 13 ∨ n = 14 ∨ n = 15 ∨ n = 16 := by omega
 rcases h16 with rfl | rfl | rfl | rfl | rfl | rfl | rfl | rfl | rfl | rfl | rfl | rfl | rfl | rfl | rfl | rfl <;> simp [nmL]
end Go.Proofs.YtodfgehicpejgaaGreatDoor
