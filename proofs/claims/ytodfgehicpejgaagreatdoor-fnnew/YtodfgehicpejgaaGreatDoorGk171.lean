/- Several texts in one: AppR, EsP, StA, BoxP, ImFp, SitP, StJ, EvP, BoxQ. -/
import Derived.Test.YtodfgehicpejgaaGreatDoorGk179
import Derived.Test.YtodfgehicpejgaaGreatDoorGk172
import Derived.Deep.RegionHeld3
import Derived.Laws.MakeOwn
import Derived.OwnWalk
namespace Go.Proofs.YtodfgehicpejgaaGreatDoor
open Go.ChangeShapes Go.WideShapes Go.ChangeAt Go.RowKit
set_option linter.unusedSimpArgs false
set_option linter.unusedVariables false
set_option maxRecDepth 100000
section
variable {α : Type}
structure Elem (T TS : TypeId) (z : Value) (sz bytes : Nat) (cl : α → List Value) : Prop where
 under : Tryz.prog.underlying TS = some (.slice T)
 info : (Tryz.prog.info? T).map (fun i => (i.zero, i.size, i.bytes)) = some (some z, sz, bytes)
 zcells : z.cells.size = sz
 pos : 0 < sz
 len : ∀ a, (cl a).length = sz
 one : ∀ a, ∀ u ∈ cl a, u.oneCell' = true
variable {T TS : TypeId} {z : Value} {sz bytes : Nat} {cl : α → List Value} {w w' : World} {base : Nat} {v : Value} {ms ns : List α}
theorem fcells_one (E : Elem T TS z sz bytes cl) (ms : List α) : ∀ u ∈ fcells cl ms, u.oneCell' = true := by
 intro u hu
 obtain ⟨a, -, h⟩ := List.mem_flatMap.1 hu
 exact E.one a u h
theorem addr_add (b o j : Nat) : (⟨b, o, none⟩ : Addr).add j = ⟨b, o + j, none⟩ := by unfold Addr.add; split <;> simp_all
theorem run_appR (E : Elem T TS z sz bytes cl) (ty : TypeId) (hown : w.ownsRow base T sz v ms.length (fcells cl ms)) (sv : Value) (hsrc : Rw sz cl w sv ns)
  (hb : (ms.length + ns.length) * bytes ≤ 140737488355328) (hl : ms.length + ns.length ≤ 9223372036854775807) (hbase : base ≤ w.heap.size) :
  ∃ v' w', (Builtin.append_ #[TS, TS] ty #[v, sv]).run Tryz.prog w = .ok v' w' ∧ w'.ownsRow base T sz v' (ms ++ ns).length (fcells cl (ms ++ ns)) ∧ w.grownBy w' v.ownBlock := by
 obtain ⟨i0, hi, hz0, hz1, hz2⟩ := info_parts E.info
 have hm : maxLen = 9223372036854775807 := rfl
 obtain ⟨h0, a, cap, rfl, hcap, h⟩ := hsrc
 have go : ∀ ad : Addr, a = some ad → (∀ j u, (fcells cl ns)[j]? = some u → w.cell? (ad.add j) = some u) → ∃ v' w', (Builtin.append_ #[TS, TS] ty #[v, .slice a ns.length cap]).run Tryz.prog w = .ok v' w' ∧ w'.ownsRow base T sz v' (ms ++ ns).length (fcells cl (ms ++ ns)) ∧ w.grownBy w' v.ownBlock := by
  rintro ad rfl hn
  obtain ⟨v', w', hrun, h1, h2, _⟩ := run_append_own (P := Tryz.prog) w base TS ty T i0 z sz bytes E.under hi hz0 hz1 hz2 E.zcells E.pos v ms.length (fcells cl ms) hown ad ns.length cap (fcells cl ns) (fcells_len E.len ns) hn (fcells_one E ns) (by omega) hb hbase
  exact ⟨v', w', hrun, by rw [fcells_app, List.length_append]; exact h1, h2⟩
 rcases h with h | ⟨b, off, rfl, hc⟩
 ·subst h
  cases a with
  | none =>
   refine ⟨v, w, ?_, by simpa using hown, ⟨rfl, rfl, rfl, Nat.le_refl _, fun _ _ _ => rfl⟩⟩
   rcases hown.2 with ⟨rfl, h1⟩ | ⟨g, cap', cur, rfl, _, _, hnc, _⟩
   ·simp [Builtin.append_, run_underlying E.under, sizeOf, typeInfo, hi, Builtin.lenOf, Builtin.firstCells]
   ·simp [Builtin.append_, run_underlying E.under, sizeOf, typeInfo, hi, Builtin.lenOf, Builtin.firstCells, hnc, storeCells]
  | some ad => exact go ad rfl (fun j u hu => by simp [fcells] at hu)
 ·refine go _ rfl fun j u hu => ?_
  have hj : j < ns.length * sz := by
   rcases Nat.lt_or_ge j (ns.length * sz) with h | h
   ·exact h
   ·rw [List.getElem?_eq_none (by rw [fcells_len E.len]; exact h)] at hu
    cases hu
  have hp := E.pos
  have hi' : j / sz < ns.length := Nat.div_lt_of_lt_mul (by rw [Nat.mul_comm]; exact hj)
  have hjm : j % sz < (cl ns[j / sz]).length := by rw [E.len]; exact Nat.mod_lt _ hp
  obtain ⟨u', hu'⟩ : ∃ u', (cl ns[j / sz])[j % sz]? = some u' := ⟨_, List.getElem?_eq_getElem hjm⟩
  have e1 := fcells_at E.len ns (j / sz) hi' (j % sz) u' hu'
  have e2 : j / sz * sz + j % sz = j := by rw [Nat.mul_comm]; exact Nat.div_add_mod j sz
  rw [e2, hu] at e1
  cases e1
  have := hc (j / sz) hi' (j % sz) u hu'
  rw [addr_add]
  rw [Nat.add_assoc, e2] at this
  exact this
variable {ops : Array Oper} {rest : List Oper} {o : Oper} {a : Act} {Q : Exit → Act → World → Prop}
theorem rowR_below {T : TypeId} {n : Nat} {l : List Value} (h : w.ownsRow base T sz v n l) (hb : Below w.heap.size w w') : w'.ownsRow base T sz v n l :=
 h.kept (row := none) ⟨hb.os, hb.tape, hb.output, hb.size, fun k hk _ => hb.block k hk⟩ (by cases v.ownBlock <;> simp)
theorem rowR_mono {T : TypeId} {n base' : Nat} {l : List Value} (h : w.ownsRow base T sz v n l) (hB : base' ≤ base) : w.ownsRow base' T sz v n l := by
 refine ⟨h.1, ?_⟩
 rcases h.2 with h0 | ⟨g, cap, cur, h1, h2, h3⟩
 ·exact .inl h0
 ·exact .inr ⟨g, cap, cur, h1, by omega, h3⟩
theorem rowR_slice {T : TypeId} {n : Nat} {l : List Value} (h : w.ownsRow base T sz v n l) : ∃ a c, v = .slice a n c := by
 rcases h.2 with ⟨rfl, h0⟩ | ⟨g, cap, cur, rfl, _⟩
 ·exact ⟨none, 0, by rw [h0]⟩
 ·exact ⟨_, _, rfl⟩
theorem rowR_none (E : Elem T TS z sz bytes cl) (w : World) (base : Nat) : w.ownsRow base T sz (.slice none 0 0) ([] : List α).length (fcells cl []) := World.ownsRow_nil _ _ _ _
end
def Ent.cl (e : Ent) : List Value := [.int .i64 e.pl, .int .i64 e.wave, .bool e.hole, .string e.data]
theorem elemE : Elem (α := Ent) 156 78 (.agg #[.int .i64 0, .int .i64 0, .bool false, .string ⟨#[]⟩]) 4 40 Ent.cl where
 under := Tryz.underlying78
 info := by kernel_rfl
 zcells := by kernel_rfl
 pos := by decide
 len := fun _ => rfl
 one := fun a u hu => by
  simp only [Ent.cl, List.mem_cons, List.not_mem_nil, or_false] at hu
  rcases hu with rfl | rfl | rfl | rfl <;> rfl
def fitE (es : List Ent) : Prop := ∀ e ∈ es, e.fits
def EntAt (w : World) (b o : Nat) (e : Ent) : Prop := w.cell? ⟨b, o, none⟩ = some (.int .i64 e.pl) ∧ w.cell? ⟨b, o + 1, none⟩ = some (.int .i64 e.wave) ∧ w.cell? ⟨b, o + 2, none⟩ = some (.bool e.hole) ∧ w.cell? ⟨b, o + 3, none⟩ = some (.string e.data)
theorem EntAt.below {w w' : World} {b o : Nat} {e : Ent} (h : EntAt w b o e) (hb : Below w.heap.size w w') : EntAt w' b o e :=
 ⟨(hb.cell (p := ⟨b, o, none⟩) (dCell_lt h.1)).trans h.1, (hb.cell (p := ⟨b, o + 1, none⟩) (dCell_lt h.2.1)).trans h.2.1, (hb.cell (p := ⟨b, o + 2, none⟩) (dCell_lt h.2.2.1)).trans h.2.2.1, (hb.cell (p := ⟨b, o + 3, none⟩) (dCell_lt h.2.2.2)).trans h.2.2.2⟩
theorem Rw.ent {w : World} {a : Option Addr} {n cap : Nat} {es : List Ent} (h : Rw 4 Ent.cl w (.slice a n cap) es) {k : Nat} (hk : k < es.length) : ∃ b off, a = some ⟨b, off, none⟩ ∧ ∀ i (hi : i < es.length), EntAt w b (off + i * 4) es[i] := by
 obtain ⟨-, a', cap', e, -, h⟩ := h
 cases e
 obtain ⟨b, off, rfl, hc⟩ := orR_of_lt h hk
 exact ⟨b, off, rfl, fun i hi => ⟨hc i hi 0 _ rfl, hc i hi 1 _ rfl, hc i hi 2 _ rfl, hc i hi 3 _ rfl⟩⟩
structure St where
 kept : List Ent
 late : List Ent
 lock : Int
def listP (es : List Ent) (n : Nat) : Prop := es.length ≤ n ∧ ∀ e ∈ es, entP e
def ascE (es : List Ent) : Prop := ∀ i (h : i + 1 < es.length), es[i].pl < es[i + 1].pl
def stP (s : St) : Prop := listP s.kept 200 ∧ listP s.late 20 ∧ ascE s.kept ∧ 0 ≤ s.lock ∧ s.lock ≤ 30
theorem ascE_lt {es : List Ent} (h : ascE es) : ∀ j i (hj : j < es.length) (hij : i < j), es[i].pl < es[j].pl := by
 intro j
 induction j with
 | zero => intro i hj hij; omega
 | succ n ih =>
  intro i hj hij
  have h1 := h n hj
  rcases Nat.lt_or_ge i n with hlt | hge
  ·have := ih i (by omega) hlt
   omega
  ·obtain rfl : i = n := by omega
   exact h1
def keepL (e : Ent) : List Ent → List Ent
 | [] => [e]
 | a :: l => if a.pl = e.pl then better a e :: l else if e.pl < a.pl then e :: a :: l else a :: keepL e l
theorem keepL_len (e : Ent) (l : List Ent) : (keepL e l).length ≤ l.length + 1 ∧ l.length ≤ (keepL e l).length := by
 induction l with
 | nil => simp [keepL]
 | cons a l ih =>
  unfold keepL
  split
  ·simp
  ·split
   ·simp
   ·simp
    omega
def getL (es : List Ent) (x : Int) : Option Ent := es.find? fun e => e.pl == x
def Bx (w : World) (b : Nat) (vs : List Value) : Prop := ∀ i v, vs[i]? = some v → w.cell? ⟨b, i, none⟩ = some v
theorem Bx.below {w w' : World} {b : Nat} {vs : List Value} (h : Bx w b vs) (hb : Below w.heap.size w w') : Bx w' b vs := fun i v hv => (hb.cell (p := ⟨b, i, none⟩) (dCell_lt (h i v hv))).trans (h i v hv)
theorem Bx.new (w : World) (vs : List Value) (T : TypeId) : Bx (w.alloc (.cells vs.toArray T)) w.heap.size vs := fun i v hv => by
 have := MapKept.heap_alloc w (.cells vs.toArray T)
 simp only [World.cell?, this.1]
 simpa using hv
def BxZ (w : World) (B b : Nat) (vs : List Value) : Prop := B ≤ b ∧ ∀ i v, vs[i]? = some v → w.cell? ⟨b, i, none⟩ = some v ∧ w.frozen? ⟨b, i, none⟩ = false
theorem BxZ.bx {w : World} {B b : Nat} {vs : List Value} (h : BxZ w B b vs) : Bx w b vs := fun i v hv => (h.2 i v hv).1
theorem BxZ.below {w w' : World} {B b : Nat} {vs : List Value} (h : BxZ w B b vs) (hb : Below w.heap.size w w') : BxZ w' B b vs :=
 ⟨h.1, fun i v hv => ⟨(hb.cell (p := ⟨b, i, none⟩) (dCell_lt (h.2 i v hv).1)).trans (h.2 i v hv).1, (hb.frozen (p := ⟨b, i, none⟩) (dCell_lt (h.2 i v hv).1)).trans (h.2 i v hv).2⟩⟩
theorem BxZ.new (w : World) (vs : List Value) (T : TypeId) {B : Nat} (hB : B ≤ w.heap.size) : BxZ (w.alloc (.cells vs.toArray T)) B w.heap.size vs := by
 refine ⟨hB, fun i v hv => ⟨Bx.new w vs T i v hv, ?_⟩⟩
 have := MapKept.heap_alloc w (.cells vs.toArray T)
 simp only [World.frozen?, this.1]
 simp
theorem BxZ.lt {w : World} {B b : Nat} {v : Value} {vs : List Value} (h : BxZ w B b (v :: vs)) : b < w.heap.size := dCell_lt (h.2 0 v rfl).1
theorem BxZ.put {w : World} {B b : Nat} {vs : List Value} (h : BxZ w B b vs) (i : Nat) (u : Value) : BxZ (w.setCell ⟨b, i, none⟩ u) B b (vs.set i u) := by
 refine ⟨h.1, fun j v hv => ?_⟩
 by_cases e : j = i
 ·subst e
  have hj : j < vs.length := by
   rcases Nat.lt_or_ge j vs.length with h' | h'
   ·exact h'
   ·rw [List.getElem?_eq_none (by simpa using h')] at hv
    cases hv
  rw [List.getElem?_set_self hj] at hv
  cases hv
  obtain ⟨h1, h2⟩ := h.2 j vs[j] (List.getElem?_eq_getElem hj)
  exact ⟨World.cell?_setCell_same _ _ _ h1, (World.frozen?_setCell _ _ _ _).trans h2⟩
 ·rw [List.getElem?_set_ne (by omega)] at hv
  obtain ⟨h1, h2⟩ := h.2 j v hv
  exact ⟨sO h1 (by omega), (World.frozen?_setCell _ _ _ _).trans h2⟩
theorem BxZ.far {w : World} {B b b' o : Nat} {vs : List Value} (h : BxZ w B b vs) (hb : b ≠ b') (u : Value) : BxZ (w.setCell ⟨b', o, none⟩ u) B b vs :=
 ⟨h.1, fun i v hv => ⟨sO (h.2 i v hv).1 (.inl hb), (World.frozen?_setCell _ _ _ _).trans (h.2 i v hv).2⟩⟩
theorem BxZ.drawn {w w' : World} {bk B b : Nat} {vs : List Value} (h : BxZ w B b vs) (hd : Drawn bk w w') (hb : b ≠ bk) : BxZ w' B b vs :=
 ⟨h.1, fun i v hv => ⟨hd.cell (h.2 i v hv).1 hb, (hd.frozen hb (dCell_lt (h.2 i v hv).1)).trans (h.2 i v hv).2⟩⟩
theorem Bx.drawn {w w' : World} {bk b : Nat} {vs : List Value} (h : Bx w b vs) (hd : Drawn bk w w') (hb : b ≠ bk) : Bx w' b vs := fun i v hv => hd.cell (h i v hv) hb
theorem BxZ.grown {w w' : World} {B b : Nat} {vs : List Value} {row : Option Nat} (h : BxZ w B b vs) (g : w.grownBy w' row) (hn : row ≠ some b) : BxZ w' B b vs :=
 ⟨h.1, fun i v hv => by
  have e := g.block b (dCell_lt (h.2 i v hv).1) (fun e => hn e.symm)
  exact ⟨(World.cell?_of_block (a := ⟨b, i, none⟩) e).trans (h.2 i v hv).1, (World.frozen?_of_block (a := ⟨b, i, none⟩) e).trans (h.2 i v hv).2⟩⟩
theorem Bx.grown {w w' : World} {b : Nat} {vs : List Value} {row : Option Nat} (h : Bx w b vs) (g : w.grownBy w' row) (hn : row ≠ some b) : Bx w' b vs := fun i v hv =>
 (World.cell?_of_block (a := ⟨b, i, none⟩) (g.block b (dCell_lt (h i v hv)) (fun e => hn e.symm))).trans (h i v hv)
def posP (es : List Ent) (x : Int) (i : Nat) : Prop := i ≤ es.length ∧ (∀ t (h : t < es.length), t < i → es[t].pl < x) ∧ (∀ t (h : t < es.length), i ≤ t → x ≤ es[t].pl)
theorem posP.tail {a : Ent} {l : List Ent} {x : Int} {i : Nat} (h : posP (a :: l) x (i + 1)) : posP l x i := by
 obtain ⟨h0, h1, h2⟩ := h
 refine ⟨by simpa using h0, fun t ht hi => ?_, fun t ht hi => ?_⟩
 ·have := h1 (t + 1) (by simpa using ht) (by omega)
  simpa using this
 ·have := h2 (t + 1) (by simpa using ht) (by omega)
  simpa using this
theorem getL_yes {x : Int} : ∀ {es : List Ent} {i : Nat}, posP es x i → ∀ hi : i < es.length, es[i].pl = x → getL es x = some es[i]
 | [], i, h, hi, _ => by simp at hi
 | a :: l, 0, h, hi, he => by
  simp only [List.getElem_cons_zero] at he
  simp [getL, he]
 | a :: l, i + 1, h, hi, he => by
  have h1 := h.2.1 0 (by simp) (by omega)
  simp only [List.getElem_cons_zero] at h1
  have ih := getL_yes (x := x) h.tail (by simpa using hi) (by simpa using he)
  unfold getL at ih ⊢
  rw [List.find?_cons_of_neg (by simp; omega), ih]
  simp
theorem getL_no {es : List Ent} {x : Int} {i : Nat} (h : posP es x i) (ha : ascE es) (hn : ∀ h : i < es.length, es[i].pl ≠ x) : getL es x = none := by
 unfold getL
 refine List.find?_eq_none.2 fun e he => ?_
 obtain ⟨t, ht, rfl⟩ := List.getElem_of_mem he
 simp only [beq_iff_eq]
 intro e1
 rcases Nat.lt_or_ge t i with h1 | h1
 ·have := h.2.1 t ht h1
  omega
 ·have hi : i < es.length := by omega
  have h2 := hn hi
  have h3 := h.2.2 i hi (Nat.le_refl _)
  rcases Nat.eq_or_lt_of_le h1 with h4 | h4
  ·subst h4
   exact h2 e1
  ·have := ascE_lt ha t i ht h4
   omega
structure Wr (lo hi : Nat) (w w' : World) : Prop where
 os : w'.os = w.os
 tape : w'.tape = w.tape
 output : w'.output = w.output
 size : w.heap.size ≤ w'.heap.size
 block : ∀ k, k < w.heap.size → (k < lo ∨ hi ≤ k) → w'.heap[k]? = w.heap[k]?
theorem Wr.of_below {lo hi : Nat} {w w' : World} (h : Below w.heap.size w w') : Wr lo hi w w' := ⟨h.os, h.tape, h.output, h.size, fun k hk _ => h.block k hk⟩
theorem Wr.refl (lo hi : Nat) (w : World) : Wr lo hi w w := ⟨rfl, rfl, rfl, Nat.le_refl _, fun _ _ _ => rfl⟩
theorem Wr.trans {lo hi : Nat} {a b c : World} (h : Wr lo hi a b) (k : Wr lo hi b c) : Wr lo hi a c :=
 ⟨k.os.trans h.os, k.tape.trans h.tape, k.output.trans h.output, Nat.le_trans h.size k.size, fun j hj hn => (k.block j (Nat.lt_of_lt_of_le hj h.size) hn).trans (h.block j hj hn)⟩
theorem Wr.wider {lo hi lo' hi' : Nat} {a b : World} (h : Wr lo hi a b) (h1 : lo' ≤ lo) (h2 : hi ≤ hi') : Wr lo' hi' a b := ⟨h.os, h.tape, h.output, h.size, fun j hj hn => h.block j hj (by omega)⟩
theorem Wr.below {lo hi B : Nat} {w0 w w' : World} (h : Wr lo hi w w') (hb : Below B w0 w) (hB : B ≤ w.heap.size) (hl : B ≤ lo) : Below B w0 w' :=
 hb.trans ⟨h.os, h.tape, h.output, h.size, fun k hk => h.block k (Nat.lt_of_lt_of_le hk hB) (by omega)⟩
structure Sits (P : World → Prop) (lo hi : Nat) (w : World) : Prop where
 fit : hi ≤ w.heap.size
 all : ∀ w' : World, (∀ k, lo ≤ k → k < hi → w'.heap[k]? = w.heap[k]?) → P w'
theorem Sits.now {P : World → Prop} {lo hi : Nat} {w : World} (h : Sits P lo hi w) : P w := h.all w fun _ _ _ => rfl
theorem Sits.below {P : World → Prop} {lo hi : Nat} {w w' : World} (h : Sits P lo hi w) (b : Below w.heap.size w w') : Sits P lo hi w' :=
 ⟨Nat.le_trans h.fit b.size, fun W hW => h.all W fun k h1 h2 => (hW k h1 h2).trans (b.block k (by have := h.fit; omega))⟩
theorem Sits.wr {P : World → Prop} {lo hi lo' hi' : Nat} {w w' : World} (h : Sits P lo hi w) (b : Wr lo' hi' w w') (hd : hi ≤ lo' ∨ hi' ≤ lo) : Sits P lo hi w' :=
 ⟨Nat.le_trans h.fit b.size, fun W hW => h.all W fun k h1 h2 => (hW k h1 h2).trans (b.block k (by have := h.fit; omega) (by omega))⟩
theorem Sits.at {P : World → Prop} {lo hi : Nat} {w W : World} (h : Sits P lo hi w) (b : Below w.heap.size w W) : P W := (h.below b).now
theorem Sits.imp {P Q : World → Prop} {lo hi : Nat} {w : World} (h : Sits P lo hi w) (f : ∀ W, P W → Q W) : Sits Q lo hi w := ⟨h.fit, fun W hW => f W (h.all W hW)⟩
theorem Sits.and {P Q : World → Prop} {lo hi lo' hi' : Nat} {w : World} (h : Sits P lo hi w) (k : Sits Q lo' hi' w) : Sits (fun W => P W ∧ Q W) (min lo lo') (max hi hi') w :=
 ⟨by have := h.fit; have := k.fit; omega, fun W hW => ⟨h.all W fun j h1 h2 => hW j (by omega) (by omega), k.all W fun j h1 h2 => hW j (by omega) (by omega)⟩⟩
def Box (b : Nat) (vs : Array Value) (W : World) : Prop := ∀ i v, vs[i]? = some v → W.cell? ⟨b, i, none⟩ = some v
theorem Sits.box (w : World) (vs : Array Value) (T : TypeId) : Sits (Box w.heap.size vs) w.heap.size (w.heap.size + 1) (w.alloc (.cells vs T)) := by
 refine ⟨by simp, fun W hW i v hv => ?_⟩
 have e := hW w.heap.size (Nat.le_refl _) (by omega)
 have : (w.alloc (.cells vs T)).cell? ⟨w.heap.size, i, none⟩ = some v := by simpa using hv
 rw [← this]
 exact World.cell?_of_block e
theorem Below.step {B : Nat} {w0 w w' : World} (h : Below w0.heap.size w0 w) (k : Below w.heap.size w w') : Below w0.heap.size w0 w' := bT h k
section
variable {α : Type}
def ElZ (cl : α → List Value) (w : World) (b o : Nat) (e : α) : Prop := ∀ j u, (cl e)[j]? = some u → w.cell? ⟨b, o + j, none⟩ = some u ∧ w.frozen? ⟨b, o + j, none⟩ = false
def RwZ (sz : Nat) (cl : α → List Value) (w : World) (b off n : Nat) (f : Nat → α) : Prop := ∀ i, i < n → ElZ cl w b (off + i * sz) (f i)
def putZ (f : Nat → α) (k : Nat) (e : α) : Nat → α := fun i => if i = k then e else f i
variable {sz : Nat} {cl : α → List Value} {w w' : World} {b off n k base : Nat} {f : Nat → α}
theorem putZ_same (f : Nat → α) (k : Nat) (e : α) : putZ f k e k = e := if_pos rfl
theorem putZ_twice (f : Nat → α) (k : Nat) (e e' : α) : putZ (putZ f k e) k e' = putZ f k e' := by
 funext i
 unfold putZ
 split <;> rfl
theorem RwZ.below (h : RwZ sz cl w b off n f) (hb : Below w.heap.size w w') : RwZ sz cl w' b off n f := fun i hi j u hu =>
 ⟨(hb.cell (p := ⟨b, off + i * sz + j, none⟩) (dCell_lt (h i hi j u hu).1)).trans (h i hi j u hu).1, (hb.frozen (p := ⟨b, off + i * sz + j, none⟩) (dCell_lt (h i hi j u hu).1)).trans (h i hi j u hu).2⟩
theorem idx_ne {i k j j' sz : Nat} (h : i ≠ k) (hj : j < sz) (hj' : j' < sz) : i * sz + j' ≠ k * sz + j := by
 rcases Nat.lt_or_gt_of_ne h with h | h
 ·have := Nat.mul_le_mul_right sz (show i + 1 ≤ k from h)
  rw [Nat.add_mul] at this
  omega
 ·have := Nat.mul_le_mul_right sz (show k + 1 ≤ i from h)
  rw [Nat.add_mul] at this
  omega
theorem clG_lt (hcl : ∀ a, (cl a).length = sz) {e : α} {j : Nat} {u : Value} (h : (cl e)[j]? = some u) : j < sz := by
 rcases Nat.lt_or_ge j sz with h' | h'
 ·exact h'
 ·rw [List.getElem?_eq_none (by rw [hcl]; exact h')] at h
  cases h
theorem RwZ.cell (hcl : ∀ a, (cl a).length = sz) (h : RwZ sz cl w b off n f) (hk : k < n) (j : Nat) (hj : j < sz) (u : Value) (e' : α) (he : cl e' = (cl (f k)).set j u) : RwZ sz cl (w.setCell ⟨b, off + k * sz + j, none⟩ u) b off n (putZ f k e') := fun i hi j' u' hu => by
 unfold putZ at hu
 split at hu
 ·rename_i e
  subst e
  rw [he] at hu
  by_cases e : j' = j
  ·subst e
   rw [List.getElem?_set_self (by rw [hcl]; exact hj)] at hu
   cases hu
   obtain ⟨h1, h2⟩ := h i hi j' _ (List.getElem?_eq_getElem (by rw [hcl]; exact hj))
   exact ⟨World.cell?_setCell_same _ _ _ h1, (World.frozen?_setCell _ _ _ _).trans h2⟩
  ·rw [List.getElem?_set_ne (by omega)] at hu
   obtain ⟨h1, h2⟩ := h i hi j' _ hu
   exact ⟨sO h1 (by omega), (World.frozen?_setCell _ _ _ _).trans h2⟩
 ·rename_i e
  have hj' := clG_lt hcl hu
  have := idx_ne e hj hj'
  obtain ⟨h1, h2⟩ := h i hi j' _ hu
  exact ⟨sO h1 (by omega), (World.frozen?_setCell _ _ _ _).trans h2⟩
theorem RwZ.own {cap : Nat} {es : List α} (h : RwZ sz cl w b off n f) (hn : n = es.length) (hf : ∀ i (hi : i < es.length), f i = es[i]) (hb : base ≤ b) (hl : es.length ≤ 9223372036854775807) (hc : es.length ≤ cap ∧ cap ≤ 9223372036854775807) : OwnRw sz cl w base (.slice (some ⟨b, off, none⟩) es.length cap) es := by
 refine ⟨hl, some ⟨b, off, none⟩, cap, rfl, hc, .inr ⟨b, off, rfl, hb, fun i hi j u hu => ?_⟩⟩
 subst hn
 exact h i hi j u (by rw [hf i hi]; exact hu)
theorem OwnRw.rwZ {cap : Nat} {a : Option Addr} {es : List α} (z : α) (h : OwnRw sz cl w base (.slice a n cap) es) (hp : 0 < es.length) : ∃ b off, a = some ⟨b, off, none⟩ ∧ base ≤ b ∧ RwZ sz cl w b off es.length (fun i => es.getD i z) := by
 obtain ⟨-, a', cap', e, -, h⟩ := h
 cases e
 obtain ⟨b, off, rfl, hb, hc⟩ := orR_of_lt h hp
 refine ⟨b, off, rfl, hb, fun i hi j u hu => hc i hi j u ?_⟩
 dsimp only at hu
 rw [List.getD_eq_getElem?_getD, List.getElem?_eq_getElem hi] at hu
 exact hu
theorem Rw.elG {a : Option Addr} {cap : Nat} {es : List α} (h : Rw sz cl w (.slice a n cap) es) (hk : k < es.length) : ∃ b off, a = some ⟨b, off, none⟩ ∧ ∀ i (hi : i < es.length) j u, (cl es[i])[j]? = some u → w.cell? ⟨b, off + i * sz + j, none⟩ = some u := by
 obtain ⟨-, a', cap', e, -, h⟩ := h
 cases e
 exact orR_of_lt h hk
theorem OwnRw.geZ {v : Value} {m : List α} (h : OwnRw sz cl w base v m) : m = [] ∨ base ≤ bO v := by
 obtain ⟨-, a, cap, rfl, -, h⟩ := h
 rcases h with h | ⟨b, off, rfl, hb, hc⟩
 ·exact .inl h
 ·exact .inr hb
def OwG (sz : Nat) (cl : α → List Value) (lo hi : Nat) (v : Value) (m : List α) (W : World) : Prop := OwnRw sz cl W lo v m ∧ (m = [] ∨ bO v < hi)
theorem OwG.sits {lo hi : Nat} {v : Value} {m : List α} (h : OwG sz cl lo hi v m w) (hf : hi ≤ w.heap.size) : Sits (OwG sz cl lo hi v m) lo hi w := by
 refine ⟨hf, fun W hW => ⟨?_, h.2⟩⟩
 obtain ⟨⟨h0, a, cap, rfl, hcap, h⟩, hl⟩ := h
 refine ⟨h0, a, cap, rfl, hcap, ?_⟩
 rcases hl with hl | hl
 ·exact .inl hl
 ·rcases h with h | ⟨b, off, rfl, hb, hc⟩
  ·exact .inl h
  ·have e := hW b hb hl
   exact .inr ⟨b, off, rfl, hb, fun i hi j u hu => ⟨(World.cell?_of_block (a := ⟨b, off + i * sz + j, none⟩) e).trans (hc i hi j u hu).1, (World.frozen?_of_block (a := ⟨b, off + i * sz + j, none⟩) e).trans (hc i hi j u hu).2⟩⟩
theorem OwG.wide {lo hi lo' hi' : Nat} {v : Value} {m : List α} (h : OwG sz cl lo hi v m w) (h1 : lo' ≤ lo) (h2 : hi ≤ hi') : OwG sz cl lo' hi' v m w := ⟨h.1.mono h1, h.2.elim .inl fun h => .inr (by omega)⟩
theorem RwZ.made {T : TypeId} (z : Value) (e : α) (hz : z.cells.toList = cl e) (hcl : ∀ a, (cl a).length = sz) (w : World) (n : Nat) : RwZ sz cl (w.alloc (.cells (madeCells z.cells (n * sz)) T)) w.heap.size 0 n (fun _ => e) := fun i hi j u hu => by
 have hj := clG_lt hcl hu
 have hm := MapKept.heap_alloc w (.cells (madeCells z.cells (n * sz)) T)
 have hs : z.cells.size = sz := by rw [← Array.length_toList, hz, hcl]
 have hlt : i * sz + j < n * sz := by
  have := Nat.mul_le_mul_right sz (show i + 1 ≤ n from hi)
  rw [Nat.add_mul] at this
  omega
 refine ⟨?_, ?_⟩
 ·simp only [World.cell?, hm.1]
  rw [Nat.zero_add]
  have hu' : z.cells[j]? = some u := by rw [← Array.getElem?_toList, hz]; exact hu
  have h1 : (i * sz + j) % sz = j := by rw [Nat.mul_comm, Nat.mul_add_mod, Nat.mod_eq_of_lt hj]
  simp [madeCells, hlt, hs, h1, hu', getElem!_def]
 ·simp only [World.frozen?, hm.1]
  simp
end
theorem BxZ.made {w w' : World} {B : Nat} {a b c : Value} {T : TypeId} (h : B ≤ w.heap.size) (hb : Below (w.alloc (.cells #[a, b, c] T)).heap.size (w.alloc (.cells #[a, b, c] T)) w') : BxZ w' B w.heap.size [a, b, c] :=
 (BxZ.new w [a, b, c] T h).below hb
theorem Bx.sits {w : World} {b : Nat} {v : Value} {vs : List Value} (h : Bx w b (v :: vs)) : Sits (Box b (v :: vs).toArray) b (b + 1) w := by
 refine ⟨by have := dCell_lt (h 0 v rfl); exact this, fun W hW i u hu => ?_⟩
 have e := hW b (Nat.le_refl _) (by omega)
 have hu' : (v :: vs)[i]? = some u := by simpa using hu
 rw [← h i u hu']
 exact World.cell?_of_block e
end Go.Proofs.YtodfgehicpejgaaGreatDoor
