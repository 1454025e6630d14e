/- Several texts in one: CpP, MnSa, StepP, EvS, SeS, AwS, NxD, MnP. -/
import Derived.Test.YtodfgehicpejgaaGreatDoorGk181
import Derived.Laws.CopyOwn
import Derived.Test.YtodfgehicpejgaaGreatDoorGk151
import Derived.Test.YtodfgehicpejgaaGreatDoorGk171
import Derived.Deep.RegionHeld3
import Derived.Deep.DeepCutAuto
import Derived.WalkKit
import Derived.Test.YtodfgehicpejgaaGreatDoorGk177
import Derived.Test.YtodfgehicpejgaaGreatDoorGk172
import Derived.Test.YtodfgehicpejgaaGreatDoorGk179
import Derived.Laws.IdiomCopy
import Derived.Lib.SliceRun
import Derived.Test.YtodfgehicpejgaaGreatDoorGk162
import Derived.Test.YtodfgehicpejgaaGreatDoorGk136
namespace Go.Proofs.YtodfgehicpejgaaGreatDoor
open Go.ChangeShapes Go.WideShapes Go.ChangeAt Go.RowKit
set_option linter.unusedSimpArgs false
set_option linter.unusedVariables false
set_option maxRecDepth 100000
section
variable {w : World} {dT sT elem t : TypeId} {sz : Nat} {dp sp : Option Addr} {dLen dCap sLen sCap g off : Nat} {cur cs : List Value}
theorem grown_row (w : World) (g : Nat) (l : Array Value) : w.grownBy (w.setRow g l) (some g) :=
 ⟨rfl, rfl, rfl, by simp [World.setRow], fun k hk hne => setRow_other w g k l (fun e => hne (by rw [e]))⟩
theorem run_copyK (ty : TypeId) (hu : Tryz.prog.underlying dT = some (.slice elem)) (hs : (Tryz.prog.info? elem).map (·.size) = some sz) (hp : 0 < sz)
  (hg : w.heap[g]? = some (.cells cur.toArray t (0, 0))) (hn : cs.length = Nat.min sLen dLen * sz)
  (hpos : 0 < cs.length → dp = some ⟨g, off, none⟩ ∧ ∃ ad, sp = some ad ∧ ∀ j v, cs[j]? = some v → w.cell? (ad.add j) = some v)
  (hfit : off + cs.length ≤ cur.length) (h1 : ∀ v ∈ cs, v.oneCell' = true) :
  ∃ w', (Builtin.copy_ #[dT, sT] ty #[.slice dp dLen dCap, .slice sp sLen sCap]).run Tryz.prog w = .ok (goInt (Nat.min sLen dLen)) w' ∧ w'.heap[g]? = some (.cells (splice cur off cs).toArray t (0, 0)) ∧ w.grownBy w' (some g) := by
 cases hq : Tryz.prog.info? elem with
 | none => simp [hq] at hs
 | some i =>
  have hi : i.size = sz := by simpa [hq] using hs
  by_cases h0 : cs.length = 0
  ·obtain rfl : cs = [] := List.eq_nil_of_length_eq_zero h0
   have hm : Nat.min sLen dLen = 0 := by
    rcases Nat.mul_eq_zero.1 hn.symm with h | h
    ·exact h
    ·omega
   have hl : ∀ (x : Addr), (loadCells x 0).run Tryz.prog w = .ok #[] w := fun x => by simpa using run_loadCells_list (P := Tryz.prog) w x [] (by simp)
   refine ⟨w, ?_, by simpa [splice] using hg, ⟨rfl, rfl, rfl, Nat.le_refl _, fun _ _ _ => rfl⟩⟩
   cases dp <;> cases sp <;> simp [Builtin.copy_, run_underlying hu, Builtin.lenOf, Builtin.firstCells, sizeOf, typeInfo, hq, hm, storeCells, hl]
  ·obtain ⟨rfl, ad, rfl, hsrc⟩ := hpos (by omega)
   have hl := run_loadCells_list (P := Tryz.prog) w ad cs hsrc
   have hst := run_storeCells_at Tryz.prog g off t cs 0 cur.toArray w hg (by simpa using hfit) h1
   refine ⟨_, ?_, setRow_heap w g _ (splice cur off cs).toArray t _ hg, grown_row w g _⟩
   simp [Builtin.copy_, run_underlying hu, Builtin.lenOf, Builtin.firstCells, sizeOf, typeInfo, hq, hi, ← hn, hl, hst, splice]
variable {ops : Array Oper} {rest : List Oper} {o : Oper} {a : Act} {Q : Exit → Act → World → Prop}
theorem wp_copyK (hgd : o.guard = none) (d s : Operand) (dT sT : TypeId) (ho : o.op = .call { callee := .builtin .copy, args := #[d, s], argTypes := #[dT, sT] })
  (elem : TypeId) (sz : Nat) (hu : Tryz.prog.underlying dT = some (.slice elem)) (hs : (Tryz.prog.info? elem).map (·.size) = some sz) (hp : 0 < sz)
  (dp sp : Option Addr) (dLen dCap sLen sCap : Nat) (hd : a.eval d = .slice dp dLen dCap) (hsv : a.eval s = .slice sp sLen sCap)
  (g off : Nat) (cur : List Value) (t : TypeId) (hg : w.heap[g]? = some (.cells cur.toArray t (0, 0))) (cs : List Value) (hn : cs.length = Nat.min sLen dLen * sz)
  (hpos : 0 < cs.length → dp = some ⟨g, off, none⟩ ∧ ∃ ad, sp = some ad ∧ ∀ j v, cs[j]? = some v → w.cell? (ad.add j) = some v)
  (hfit : off + cs.length ≤ cur.length) (h1 : ∀ v ∈ cs, v.oneCell' = true)
  (h : ∀ w', Hid (w'.heap[g]? = some (.cells (splice cur off cs).toArray t (0, 0))) → Hid (w.grownBy w' (some g)) → wpList Tryz.prog ops Q rest (a.put o.dst (goInt (Nat.min sLen dLen))) w') :
  wpList Tryz.prog ops Q (o :: rest) a w := by
 refine wpList_plain hgd fun K hK => ?_
 obtain ⟨w', hrun, h2, h3⟩ := run_copyK (dCap := dCap) (sCap := sCap) (sT := sT) o.type hu hs hp hg hn hpos hfit h1
 unfold Oper.wp
 simp [execOp, ho, resolve, invoke, builtin, hd, hsv, hrun, Result.andThen]
 exact hK _ _ (h w' h2 h3)
end
section
variable {α : Type} {T TS : TypeId} {z : Value} {sz bytes : Nat} {cl : α → List Value} {w w' : World} {base : Nat} {v : Value} {ms : List α}
theorem zeroCells_size (z : Array Value) (n : Nat) : (Builtin.zeroCells z n).size = n * z.size := by simp [Builtin.zeroCells]
theorem zeroCells_mem (z : Array Value) (n : Nat) : ∀ v ∈ (Builtin.zeroCells z n).toList, v ∈ z.toList := by
 intro v hv
 have hz : 0 < z.size := by
  rcases Nat.eq_zero_or_pos z.size with h | h
  ·simp [Builtin.zeroCells, h] at hv
  ·exact h
 simp only [Builtin.zeroCells, Array.toList_map, List.mem_map] at hv
 obtain ⟨i, -, rfl⟩ := hv
 have := Nat.mod_lt i hz
 rw [getElem!_pos z (i % z.size) this]
 exact Array.getElem_mem_toList this
variable {ops : Array Oper} {rest : List Oper} {o : Oper} {a : Act} {Q : Exit → Act → World → Prop}
end
section
variable {T TS : TypeId} {zs : List Value} {w : World} {ops : Array Oper} {o : Oper} {a : Act} {Q : Exit → Act → World → Prop} {K : Act → World → Prop} {F : Prop}
end
structure Ev where
 kind : Int
 pl : Int
 data : ByteArray
def Ev.cl (e : Ev) : List Value := [.int .i64 e.kind, .int .i64 e.pl, .string e.data]
def Ev.val (e : Ev) : Value := .agg #[.int .i64 e.kind, .int .i64 e.pl, .string e.data]
theorem Ev.cl_len (e : Ev) : e.cl.length = 3 := rfl
def zeroEv : Ev := ⟨0, 0, ⟨#[]⟩⟩
theorem elemEvent : Elem (α := Ev) 143 52 (.agg #[.int .i64 0, .int .i64 0, .string ⟨#[]⟩]) 3 32 Ev.cl where
 under := Tryz.underlying52
 info := by kernel_rfl
 zcells := by kernel_rfl
 pos := by decide
 len := fun _ => rfl
 one := fun a u hu => by
  simp only [Ev.cl, List.mem_cons, List.not_mem_nil, or_false] at hu
  rcases hu with rfl | rfl | rfl <;> rfl
def EvAt (w : World) (b o : Nat) (e : Ev) : Prop := w.cell? ⟨b, o, none⟩ = some (.int .i64 e.kind) ∧ w.cell? ⟨b, o + 1, none⟩ = some (.int .i64 e.pl) ∧ w.cell? ⟨b, o + 2, none⟩ = some (.string e.data)
theorem EvAt.below {w w' : World} {b o : Nat} {e : Ev} (h : EvAt w b o e) (hb : Below w.heap.size w w') : EvAt w' b o e := by
 obtain ⟨h0, h1, h2⟩ := h
 exact ⟨(hb.cell (p := ⟨b, o, none⟩) (dCell_lt h0)).trans h0, (hb.cell (p := ⟨b, o + 1, none⟩) (dCell_lt h1)).trans h1, (hb.cell (p := ⟨b, o + 2, none⟩) (dCell_lt h2)).trans h2⟩
theorem Rw.atEv {w : World} {a : Option Addr} {n cap : Nat} {es : List Ev} (h : Rw 3 Ev.cl w (.slice a n cap) es) {k : Nat} (hk : k < es.length) : ∃ b off, a = some ⟨b, off, none⟩ ∧ ∀ i (hi : i < es.length), EvAt w b (off + i * 3) es[i] := by
 obtain ⟨b, off, e, hc⟩ := h.elG hk
 exact ⟨b, off, e, fun i hi => ⟨hc i hi 0 _ rfl, hc i hi 1 _ rfl, hc i hi 2 _ rfl⟩⟩
def sumEv (es : List Ev) : Nat := (es.map fun e => e.data.size).sum
def RdEventS (v : Value) (m : List Ev) (W : World) : Prop := Rw 3 Ev.cl W v m
def OwEventS (lo hi : Nat) (v : Value) (m : List Ev) (W : World) : Prop := OwG 3 Ev.cl lo hi v m W
def sizEventS (m : List Ev) : Nat := m.length + sumEv m
theorem OwEventS.rd {lo hi : Nat} {v : Value} {m : List Ev} {W : World} (h : OwEventS lo hi v m W) : RdEventS v m W := OwnRw.rw h.1
theorem RdEventS.below {v : Value} {m : List Ev} {W W' : World} (h : RdEventS v m W) (b : Below W.heap.size W W') : RdEventS v m W' := Rw.below h b
theorem formEventS {v : Value} {m : List Ev} {W : World} (h : RdEventS v m W) : ∃ a cap, v = .slice a m.length cap ∧ m.length ≤ 9223372036854775807 := by
 obtain ⟨h0, a, cap, rfl, -, -⟩ := h
 exact ⟨a, cap, rfl, h0⟩
theorem zallEv {w : World} {b off n k : Nat} {f : Nat → Ev} (h : RwZ 3 Ev.cl w b off n f) (hk : k < n) (e : Ev) :
  RwZ 3 Ev.cl (((w.setCell ⟨b, off + k * 3, none⟩ (.int .i64 e.kind)).setCell ⟨b, off + k * 3 + 1, none⟩ (.int .i64 e.pl)).setCell ⟨b, off + k * 3 + 2, none⟩ (.string e.data)) b off n (putZ f k e) := by
 have h1 := h.cell Ev.cl_len hk 0 (by decide) (.int .i64 e.kind) ⟨e.kind, (f k).pl, (f k).data⟩ (by rfl)
 have h2 := h1.cell Ev.cl_len hk 1 (by decide) (.int .i64 e.pl) ⟨e.kind, e.pl, (f k).data⟩ (by simp only [putZ_same]; rfl)
 rw [putZ_twice] at h2
 have h3 := h2.cell Ev.cl_len hk 2 (by decide) (.string e.data) ⟨e.kind, e.pl, e.data⟩ (by simp only [putZ_same]; rfl)
 rw [putZ_twice] at h3
 exact h3
structure Se where
 pl : Int
 data : ByteArray
 sure : Bool
def Se.cl (e : Se) : List Value := [.int .i64 e.pl, .string e.data, .bool e.sure]
def Se.val (e : Se) : Value := .agg #[.int .i64 e.pl, .string e.data, .bool e.sure]
theorem Se.cl_len (e : Se) : e.cl.length = 3 := rfl
theorem elemSent : Elem (α := Se) 97 35 (.agg #[.int .i64 0, .string ⟨#[]⟩, .bool false]) 3 32 Se.cl where
 under := Tryz.underlying35
 info := by kernel_rfl
 zcells := by kernel_rfl
 pos := by decide
 len := fun _ => rfl
 one := fun a u hu => by
  simp only [Se.cl, List.mem_cons, List.not_mem_nil, or_false] at hu
  rcases hu with rfl | rfl | rfl <;> rfl
def SeAt (w : World) (b o : Nat) (e : Se) : Prop := w.cell? ⟨b, o, none⟩ = some (.int .i64 e.pl) ∧ w.cell? ⟨b, o + 1, none⟩ = some (.string e.data) ∧ w.cell? ⟨b, o + 2, none⟩ = some (.bool e.sure)
theorem SeAt.below {w w' : World} {b o : Nat} {e : Se} (h : SeAt w b o e) (hb : Below w.heap.size w w') : SeAt w' b o e := by
 obtain ⟨h0, h1, h2⟩ := h
 exact ⟨(hb.cell (p := ⟨b, o, none⟩) (dCell_lt h0)).trans h0, (hb.cell (p := ⟨b, o + 1, none⟩) (dCell_lt h1)).trans h1, (hb.cell (p := ⟨b, o + 2, none⟩) (dCell_lt h2)).trans h2⟩
theorem Rw.atSe {w : World} {a : Option Addr} {n cap : Nat} {es : List Se} (h : Rw 3 Se.cl w (.slice a n cap) es) {k : Nat} (hk : k < es.length) : ∃ b off, a = some ⟨b, off, none⟩ ∧ ∀ i (hi : i < es.length), SeAt w b (off + i * 3) es[i] := by
 obtain ⟨b, off, e, hc⟩ := h.elG hk
 exact ⟨b, off, e, fun i hi => ⟨hc i hi 0 _ rfl, hc i hi 1 _ rfl, hc i hi 2 _ rfl⟩⟩
def sumSe (es : List Se) : Nat := (es.map fun e => e.data.size).sum
def RdSentS (v : Value) (m : List Se) (W : World) : Prop := Rw 3 Se.cl W v m
def OwSentS (lo hi : Nat) (v : Value) (m : List Se) (W : World) : Prop := OwG 3 Se.cl lo hi v m W
def sizSentS (m : List Se) : Nat := m.length + sumSe m
theorem OwSentS.rd {lo hi : Nat} {v : Value} {m : List Se} {W : World} (h : OwSentS lo hi v m W) : RdSentS v m W := OwnRw.rw h.1
theorem RdSentS.below {v : Value} {m : List Se} {W W' : World} (h : RdSentS v m W) (b : Below W.heap.size W W') : RdSentS v m W' := Rw.below h b
theorem formSentS {v : Value} {m : List Se} {W : World} (h : RdSentS v m W) : ∃ a cap, v = .slice a m.length cap ∧ m.length ≤ 9223372036854775807 := by
 obtain ⟨h0, a, cap, rfl, -, -⟩ := h
 exact ⟨a, cap, rfl, h0⟩
structure Aw where
 node : Int
 has : Bool
 ent : Ent
def Aw.cl (e : Aw) : List Value := [.int .i64 e.node, .bool e.has, .int .i64 e.ent.pl, .int .i64 e.ent.wave, .bool e.ent.hole, .string e.ent.data]
def Aw.val (e : Aw) : Value := .agg #[.int .i64 e.node, .bool e.has, .int .i64 e.ent.pl, .int .i64 e.ent.wave, .bool e.ent.hole, .string e.ent.data]
theorem Aw.cl_len (e : Aw) : e.cl.length = 6 := rfl
theorem elemAnswer : Elem (α := Aw) 248 186 (.agg #[.int .i64 0, .bool false, .int .i64 0, .int .i64 0, .bool false, .string ⟨#[]⟩]) 6 56 Aw.cl where
 under := Tryz.underlying186
 info := by kernel_rfl
 zcells := by kernel_rfl
 pos := by decide
 len := fun _ => rfl
 one := fun a u hu => by
  simp only [Aw.cl, List.mem_cons, List.not_mem_nil, or_false] at hu
  rcases hu with rfl | rfl | rfl | rfl | rfl | rfl <;> rfl
def AwAt (w : World) (b o : Nat) (e : Aw) : Prop := w.cell? ⟨b, o, none⟩ = some (.int .i64 e.node) ∧ w.cell? ⟨b, o + 1, none⟩ = some (.bool e.has) ∧ w.cell? ⟨b, o + 2, none⟩ = some (.int .i64 e.ent.pl) ∧ w.cell? ⟨b, o + 3, none⟩ = some (.int .i64 e.ent.wave) ∧ w.cell? ⟨b, o + 4, none⟩ = some (.bool e.ent.hole) ∧ w.cell? ⟨b, o + 5, none⟩ = some (.string e.ent.data)
theorem AwAt.below {w w' : World} {b o : Nat} {e : Aw} (h : AwAt w b o e) (hb : Below w.heap.size w w') : AwAt w' b o e := by
 obtain ⟨h0, h1, h2, h3, h4, h5⟩ := h
 exact ⟨(hb.cell (p := ⟨b, o, none⟩) (dCell_lt h0)).trans h0, (hb.cell (p := ⟨b, o + 1, none⟩) (dCell_lt h1)).trans h1, (hb.cell (p := ⟨b, o + 2, none⟩) (dCell_lt h2)).trans h2, (hb.cell (p := ⟨b, o + 3, none⟩) (dCell_lt h3)).trans h3, (hb.cell (p := ⟨b, o + 4, none⟩) (dCell_lt h4)).trans h4, (hb.cell (p := ⟨b, o + 5, none⟩) (dCell_lt h5)).trans h5⟩
theorem Rw.atAw {w : World} {a : Option Addr} {n cap : Nat} {es : List Aw} (h : Rw 6 Aw.cl w (.slice a n cap) es) {k : Nat} (hk : k < es.length) : ∃ b off, a = some ⟨b, off, none⟩ ∧ ∀ i (hi : i < es.length), AwAt w b (off + i * 6) es[i] := by
 obtain ⟨b, off, e, hc⟩ := h.elG hk
 exact ⟨b, off, e, fun i hi => ⟨hc i hi 0 _ rfl, hc i hi 1 _ rfl, hc i hi 2 _ rfl, hc i hi 3 _ rfl, hc i hi 4 _ rfl, hc i hi 5 _ rfl⟩⟩
def RdAnswerS (v : Value) (m : List Aw) (W : World) : Prop := Rw 6 Aw.cl W v m
def OwAnswerS (lo hi : Nat) (v : Value) (m : List Aw) (W : World) : Prop := OwG 6 Aw.cl lo hi v m W
theorem OwAnswerS.rd {lo hi : Nat} {v : Value} {m : List Aw} {W : World} (h : OwAnswerS lo hi v m W) : RdAnswerS v m W := OwnRw.rw h.1
theorem RdAnswerS.below {v : Value} {m : List Aw} {W W' : World} (h : RdAnswerS v m W) (b : Below W.heap.size W W') : RdAnswerS v m W' := Rw.below h b
theorem formAnswerS {v : Value} {m : List Aw} {W : World} (h : RdAnswerS v m W) : ∃ a cap, v = .slice a m.length cap ∧ m.length ≤ 9223372036854775807 := by
 obtain ⟨h0, a, cap, rfl, -, -⟩ := h
 exact ⟨a, cap, rfl, h0⟩
theorem cloneV_any (v : Value) (rs : List Ev) (w : World) (hv : Rw 3 Ev.cl w v rs) (hl : rs.length ≤ 1048576) :
  Calls Tryz.prog 98 #[v] w fun e w' => (∃ u, e = .returned u ∧ ApR 143 3 Ev.cl w' w.heap.size u rs) ∧ Below w.heap.size w w' := by
 have HV := dH fun W (hb : Below w.heap.size w W) => hv.below hb
 have hv' := hv
 obtain ⟨-, a, cap, rfl, hcap, hc⟩ := hv'
 cases a with
 | none =>
  have e0 : rs = [] := by
   rcases hc with h | ⟨b, off, h, -⟩
   ·exact h
   ·cases h
  subst e0
  have hnil : ∀ w, (binOp .eql 52 (.slice none 0 cap) (.slice none 0 0)).run Tryz.prog w = .ok (.bool true) w := fun w => Go.Lib.run_eql_slice_nil w 52 143 none _ _ 0 0 Tryz.underlying52
  have O : ApR 143 3 Ev.cl w w.heap.size (.slice none 0 0) ([] : List Ev) := .inl ⟨rfl, none, rfl⟩
  clear hv HV hc
  simp only [List.length_nil]
  go_enter Tryz.func98, Tryz.ntmps98
  go_wp2
  go_ret
  exact ⟨⟨_, rfl, O⟩, Below.refl _ _⟩
 | some ad =>
  have B1 := (Below.refl w.heap.size w).alloc (Nat.le_refl _) (.cells #[] 143)
  have hN := dU HV _ B1
  have hnil : ∀ w, (binOp .eql 52 (.slice (some ad) rs.length cap) (.slice none 0 0)).run Tryz.prog w = .ok (.bool false) w := fun w => Go.Lib.run_eql_slice_nil w 52 143 (some ad) _ _ 0 0 Tryz.underlying52
  clear hv HV hc
  go_enter Tryz.func98, Tryz.ntmps98
  go_wp2_with (at_builtin; refine wp_cpR elemEvent rfl _ _ rfl _ rfl _ rs rfl hN (by omega) ?_; intro u w2 O2 b2)
  go_ret
  exact ⟨⟨_, rfl, O2.mono B1.size⟩, bT B1 b2⟩
theorem grwT {w w1 w2 : World} {b : Nat} (h : w.grownBy w1 (some b)) (h' : w1.grownBy w2 (some b)) : w.grownBy w2 (some b) :=
 ⟨h'.os.trans h.os, h'.tape.trans h.tape, h'.output.trans h.output, Nat.le_trans h.size h'.size, fun k hk hn => (h'.block k (Nat.lt_of_lt_of_le hk h.size) hn).trans (h.block k hk hn)⟩
theorem grwR (w : World) (row : Option Nat) : w.grownBy w row := ⟨rfl, rfl, rfl, Nat.le_refl _, fun _ _ _ => rfl⟩
theorem grwOf {w w' : World} {row : Option Nat} (h : Below w.heap.size w w') : w.grownBy w' row := ⟨h.os, h.tape, h.output, h.size, fun j hj _ => h.block j hj⟩
theorem grwS (b : Nat) : ∀ (vs : List Value) (o : Nat) (w : World), w.grownBy (w.setCells b o vs) (some b)
 | [], o, w => grwR w _
 | v :: vs, o, w => grwT (grown_set w b o v) (grwS b vs (o + 1) _)
def flZ {α : Type} (q : α → Bool) (xs : List α) : List α := xs.filter fun z => !(q z)
theorem flZ_yes {α : Type} {q : α → Bool} (xs : List α) (k : Nat) (h : k < xs.length) (hx : q xs[k] = true) : flZ q (xs.take (k + 1)) = flZ q (xs.take k) := by
 rw [flZ, List.take_succ_eq_append_getElem h, List.filter_append]
 simp [flZ, hx]
theorem flZ_no {α : Type} {q : α → Bool} (xs : List α) (k : Nat) (h : k < xs.length) (hx : q xs[k] = false) : flZ q (xs.take (k + 1)) = flZ q (xs.take k) ++ [xs[k]] := by
 rw [flZ, List.take_succ_eq_append_getElem h, List.filter_append]
 simp [flZ, hx]
theorem flZ_same {α : Type} {q : α → Bool} {xs : List α} (h : ∀ x ∈ xs, q x = false) : flZ q xs = xs := by
 unfold flZ
 rw [List.filter_eq_self]
 intro a ha
 simp [h a ha]
theorem flZ_head {α : Type} {q : α → Bool} {xs : List α} {k : Nat} (h : ∀ i (h : i < xs.length), i < k → q xs[i] = false) : flZ q (xs.take k) = xs.take k := flZ_same fun x hm => by
 obtain ⟨i, hi, e⟩ := List.mem_iff_getElem.1 hm
 rw [List.length_take] at hi
 rw [List.getElem_take] at e
 rw [← e]
 exact h i (by omega) (by omega)
def DelZ {α : Type} (q : α → Bool) (xs : List α) (i j : Nat) (ys : List α) : Prop := ys.length = xs.length ∧ i = (flZ q (xs.take j)).length ∧ i < j ∧ j ≤ xs.length ∧ ys.take i = flZ q (xs.take j) ∧ ∀ t (h : t < xs.length) (h' : t < ys.length), j ≤ t → ys[t] = xs[t]
theorem DelZ.start {α : Type} {q : α → Bool} {xs : List α} {k : Nat} (hk : k < xs.length) (h : ∀ i (h : i < xs.length), i < k → q xs[i] = false) (hx : q xs[k] = true) : DelZ q xs k (k + 1) xs := by
 have e1 := flZ_yes xs k hk hx
 have e2 := flZ_head (k := k) h
 refine ⟨rfl, ?_, by omega, by omega, ?_, fun t _ _ _ => rfl⟩
 ·rw [e1, e2, List.length_take]; omega
 ·rw [e1, e2]
theorem DelZ.skip {α : Type} {q : α → Bool} {xs ys : List α} {i j : Nat} (h : DelZ q xs i j ys) (hj : j < xs.length) (hx : q xs[j] = true) : DelZ q xs i (j + 1) ys := by
 obtain ⟨h1, h2, h3, h4, h5, h6⟩ := h
 have e1 := flZ_yes xs j hj hx
 exact ⟨h1, by rw [e1]; exact h2, by omega, by omega, by rw [e1]; exact h5, fun t ht ht' hjt => h6 t ht ht' (by omega)⟩
theorem DelZ.keep {α : Type} {q : α → Bool} {xs ys : List α} {i j : Nat} (h : DelZ q xs i j ys) (hj : j < xs.length) (hx : q xs[j] = false) : DelZ q xs (i + 1) (j + 1) (ys.set i xs[j]) := by
 obtain ⟨h1, h2, h3, h4, h5, h6⟩ := h
 have e1 := flZ_no xs j hj hx
 refine ⟨by rw [List.length_set]; exact h1, by rw [e1, List.length_append, ← h2]; rfl, by omega, by omega, ?_, fun t ht ht' hjt => ?_⟩
 ·rw [e1, ← h5, List.take_succ_eq_append_getElem (by rw [List.length_set]; omega), List.getElem_set_self, List.take_set_of_le (Nat.le_refl _)]
 ·rw [List.getElem_set_ne (by omega)]
  exact h6 t ht (by rw [List.length_set] at ht'; exact ht') (by omega)
theorem run_clearRows {α : Type} {T TS : TypeId} {z : Value} {sz bytes : Nat} {cl : α → List Value} (E : Elem T TS z sz bytes cl) (ty : TypeId) (hz1 : ∀ u ∈ z.cells.toList, u.oneCell' = true) (w : World) (b o n c : Nat) (hn : 0 < n)
  (hc : ∀ j, j < n * sz → (w.cell? ⟨b, o + j, none⟩).isSome = true) (hf : ∀ j, j < n * sz → w.frozen? ⟨b, o + j, none⟩ = false) :
  (Builtin.clear_ #[TS] ty #[.slice (some ⟨b, o, none⟩) n c]).run Tryz.prog w = .ok (.tuple #[]) (w.setCells b o (Builtin.zeroCells z.cells n).toList) := by
 obtain ⟨i0, hi, hz0, hzs, hzb⟩ := info_parts E.info
 have hsz : (Builtin.zeroCells z.cells n).toList.length = n * sz := by rw [Array.length_toList, zeroCells_size, E.zcells]
 have hst := run_storeCells_cells (P := Tryz.prog) b o (Builtin.zeroCells z.cells n).toList 0 w (by simpa [hsz] using hc) (by simpa [hsz] using hf) (fun u hu => hz1 u (zeroCells_mem _ _ u hu))
 obtain ⟨m, rfl⟩ : ∃ m, n = m + 1 := ⟨n - 1, by omega⟩
 simp only [Nat.add_zero] at hst
 simp [Builtin.clear_, run_underlying E.under, zeroValue, typeInfo, hi, hz0, hst]
def lastO : List Ent → Int
 | [] => 0
 | [e] => e.pl % 4294967296
 | _ :: e :: l => lastO (e :: l)
theorem lastO_at : ∀ (es : List Ent) (h : 0 < es.length), lastO es = (es[es.length - 1]'(by omega)).pl % 4294967296
 | [], h => by simp at h
 | [e], _ => rfl
 | _ :: e :: l, _ => by
  rw [lastO, lastO_at (e :: l) (by simp)]
  simp
def seenP (m : Mn) (e : Ent) : Prop := entP e ∧ e.pl / 4294967296 = m.epoch ∧ e.wave < m.bye
def mnH (ds : List Int) (cop : Int) (m : Mn) : Prop := cfgP ds cop ∧ (1 ≤ m.epoch ∧ m.epoch ≤ 30) ∧ (m.epoch + 1 ≤ m.bye ∧ m.bye ≤ 30) ∧ nodesP ds cop m.sealed ∧ ascE m.seen
def wroteP (m : Mn) : Prop := (m.wrote.length : Int) = if m.planned then lastO m.seen else 0
def mnP (ds : List Int) (cop : Int) (m : Mn) : Prop := mnH ds cop m ∧ (∀ i (h : i < m.seen.length), seenP m m.seen[i]) ∧ (∀ i (h : i < m.wrote.length), nodesP ds cop m.wrote[i]) ∧ wroteP m
theorem mnP.seen {ds : List Int} {cop : Int} {m : Mn} (h : mnP ds cop m) : ∀ e ∈ m.seen, seenP m e := fun e he => by
 obtain ⟨i, hi, rfl⟩ := List.getElem_of_mem he
 exact h.2.1 i hi
theorem mnP.wrote {ds : List Int} {cop : Int} {m : Mn} (h : mnP ds cop m) : ∀ l ∈ m.wrote, nodesP ds cop l := fun e he => by
 obtain ⟨i, hi, rfl⟩ := List.getElem_of_mem he
 exact h.2.2.1 i hi
end Go.Proofs.YtodfgehicpejgaaGreatDoor
