/- A record is put into its box, whole. -/
import Derived.Test.YtmgomacmaidmlaaGreatDoorBoxP
import Derived.Test.YtmgomacmaidmlaaGreatDoorSitP
import Derived.Deep.MidRow
import Derived.WalkKit
namespace Go.Proofs.YtmgomacmaidmlaaGreatDoor
open Go.ChangeShapes Go.WideShapes Go.ChangeAt Go.RowKit
set_option linter.unusedVariables false
set_option maxRecDepth 100000

theorem below_setCells {B b : Nat} {w : World} (hB : B ≤ b) : ∀ (vs : List Value) (o : Nat) (w' : World), Below B w w' → Below B w (w'.setCells b o vs)
  | [], _, _, h => h
  | v :: r, o, w', h => below_setCells hB r (o + 1) _ (h.setCell (p := ⟨b, o, none⟩) hB v)
theorem setCells_size (b : Nat) : ∀ (vs : List Value) (o : Nat) (w : World), (w.setCells b o vs).heap.size = w.heap.size
  | [], _, _ => rfl
  | v :: r, o, w => by rw [World.setCells, setCells_size b r]; simp
theorem setCells_block (b : Nat) {x : Nat} (h : x ≠ b) : ∀ (vs : List Value) (o : Nat) (w : World), (w.setCells b o vs).heap[x]? = w.heap[x]?
  | [], _, _ => rfl
  | v :: r, o, w => by rw [World.setCells, setCells_block b h r]; exact Below.heap_setCell _ _ _ x (by simp only; omega)
/-- A record is put into its box. -/
theorem op_putW {w : World} {o : Oper} {a : Act} {Q : Exit → Act → World → Prop} {K : Act → World → Prop} (T : TypeId) (p x : Operand) (hop : o.op = .store T p x) (hd : o.dst = none) {B b : Nat} {os : List Value} (vs : List Value) (hp : a.eval p = .pointer (some ⟨b, 0, none⟩)) (hx : a.eval x = .agg vs.toArray)
    (hY : BxZ w B b os) (hl : os.length = vs.length) (hi : (Tryz.prog.info? T).map (·.size) = some vs.toArray.size) (h1 : vs.toArray.all (·.oneCell') = true)
    (h : ∀ w', BxZ w' B b vs → w'.heap.size = w.heap.size → (∀ k, k ≠ b → w'.heap[k]? = w.heap[k]?) → Below B w w' → K a w') : Oper.wp Tryz.prog o a w K Q := by
  have ht : w.there b 0 vs.toArray.size := fun j hj => by
    have hj' : j < os.length := by simpa [hl] using hj
    have q := hY.2 j os[j] (by simp [hj'])
    simp only [Nat.zero_add]
    exact ⟨by rw [q.1]; rfl, q.2⟩
  have hr := run_storeAt_mid (P := Tryz.prog) w b 0 T vs.toArray ht hi h1
  have hc : ∀ j, j < vs.length → (w.cell? ⟨b, 0 + j, none⟩).isSome = true := fun j hj => (ht j (by simpa using hj)).1
  have Y : BxZ (w.setCells b 0 vs) B b vs := ⟨hY.1, fun i v hv => by
    obtain ⟨hi', rfl⟩ := List.getElem?_eq_some_iff.1 hv
    have hz := hY.2 i os[i] (by simp [hl, hi'])
    have e := World.cell?_setCells_in b vs 0 w hc i hi'
    rw [Nat.zero_add] at e
    exact ⟨e, (World.frozen?_setCells b vs 0 w _).trans hz.2⟩⟩
  have hh := h (w.setCells b 0 vs) Y (setCells_size b vs 0 w) (fun k hk => setCells_block b hk vs 0 w) (below_setCells hY.1 vs 0 w (Below.refl _ _))
  exact wp_store_mid T p x hop b 0 vs.toArray hp hx ht hi h1 (by rw [hd]; exact hh)
theorem wp_putW {w : World} {ops : Array Oper} {rest : List Oper} {o : Oper} {a : Act} {Q : Exit → Act → World → Prop} (hgd : o.guard = none) (T : TypeId) (p x : Operand) (hop : o.op = .store T p x) (hd : o.dst = none) {B b : Nat} {os : List Value} (vs : List Value) (hp : a.eval p = .pointer (some ⟨b, 0, none⟩)) (hx : a.eval x = .agg vs.toArray)
    (hY : BxZ w B b os) (hl : os.length = vs.length) (hi : (Tryz.prog.info? T).map (·.size) = some vs.toArray.size) (h1 : vs.toArray.all (·.oneCell') = true)
    (h : ∀ w', BxZ w' B b vs → w'.heap.size = w.heap.size → (∀ k, k ≠ b → w'.heap[k]? = w.heap[k]?) → Below B w w' → wpList Tryz.prog ops Q rest a w') : wpList Tryz.prog ops Q (o :: rest) a w :=
  wpList_plain hgd fun K' hK' => op_putW T p x hop hd vs hp hx hY hl hi h1 fun w' q1 q2 q3 q4 => hK' _ _ (h w' q1 q2 q3 q4)
theorem step_putW {w : World} {ops : Array Oper} {o : Oper} {a : Act} {Q : Exit → Act → World → Prop} {K : Act → World → Prop} {F : Prop} (hg : o.guard = none) (T : TypeId) (p x : Operand) (hop : o.op = .store T p x) (hd : o.dst = none) {B b : Nat} {os : List Value} (vs : List Value) (hp : a.eval p = .pointer (some ⟨b, 0, none⟩)) (hx : a.eval x = .agg vs.toArray)
    (hY : BxZ w B b os) (hl : os.length = vs.length) (hi : (Tryz.prog.info? T).map (·.size) = some vs.toArray.size) (h1 : vs.toArray.all (·.oneCell') = true)
    (h : ∀ w', BxZ w' B b vs → w'.heap.size = w.heap.size → (∀ k, k ≠ b → w'.heap[k]? = w.heap[k]?) → Below B w w' → K a w') :
    if Region.wanted o (yielded ops a.tmps) = true then Oper.wp Tryz.prog o a w K Q else F := by
  have hw : Region.wanted o (yielded ops a.tmps) = true := by simp [Region.wanted, hg]
  rw [if_pos hw]
  exact op_putW T p x hop hd vs hp hx hY hl hi h1 h
theorem Bx.off {w w' : World} {b c : Nat} {vs : List Value} (h : Bx w b vs) (g : ∀ k, k ≠ c → w'.heap[k]? = w.heap[k]?) (hb : b ≠ c) : Bx w' b vs := fun i v hv => (World.cell?_of_block (a := ⟨b, i, none⟩) (g b hb)).trans (h i v hv)
theorem BxZ.off {w w' : World} {B b c : Nat} {vs : List Value} (h : BxZ w B b vs) (g : ∀ k, k ≠ c → w'.heap[k]? = w.heap[k]?) (hb : b ≠ c) : BxZ w' B b vs := ⟨h.1, fun i v hv => ⟨(World.cell?_of_block (a := ⟨b, i, none⟩) (g b hb)).trans (h.2 i v hv).1, (World.frozen?_of_block (a := ⟨b, i, none⟩) (g b hb)).trans (h.2 i v hv).2⟩⟩
theorem Sits.off {P : World → Prop} {lo hi c : Nat} {w w' : World} (h : Sits P lo hi w) (g : ∀ k, k ≠ c → w'.heap[k]? = w.heap[k]?) (hb : c < lo ∨ hi ≤ c) (hs : w'.heap.size = w.heap.size) : Sits P lo hi w' :=
  ⟨by rw [hs]; exact h.fit, fun W hW => h.all W fun k h1 h2 => (hW k h1 h2).trans (g k (by omega))⟩
/-- A result that lies in a box. -/
theorem results_box {fn : Func} {p : Tmp} {ty : TypeId} (h : fn.results = #[.cell p ty]) (tmps : Array Value) (w : World) (b : Nat) (vs : List Value) (d : TypeDesc) (hp : tmps.getD p undef = .pointer (some ⟨b, 0, none⟩)) (hX : Bx w b vs) (hu : Tryz.prog.underlying ty = some d) (hd : d.isRow = true) (hi : (Tryz.prog.info? ty).map (·.size) = some vs.length) :
    (results fn tmps).run Tryz.prog w = .ok (.agg vs.toArray) w := by
  have hp' : tmps[p]?.getD undef = .pointer (some ⟨b, 0, none⟩) := by simpa using hp
  have hl := run_loadVar_mid (P := Tryz.prog) w b 0 ty vs d (fun j v hv => by rw [Nat.zero_add]; exact hX j v hv) hu hd hi
  simp [results, h, hp', asAddr, hl]
end Go.Proofs.YtmgomacmaidmlaaGreatDoor
