/- Several texts in one: StepP, RdrA. -/
import Derived.Test.YthndkkjgjhgdnaaDoorGaA
import Derived.WalkKit
namespace Go.Proofs.YthndkkjgjhgdnaaDoor
open Go.ChangeShapes Go.WideShapes Go.ChangeAt Go.RowKit
set_option linter.unusedVariables false
set_option maxRecDepth 100000

section
variable {T TS : TypeId} {zs : List Value} {w : World} {ops : Array Oper} {o : Oper} {a : Act} {Q : Exit → Act → World → Prop} {K : Act → World → Prop} {F : Prop}
/-- A record's block. -/
def AllocsAs (T : TypeId) (zs : List Value) : Prop := ∀ w : World, (Instr.alloc T true (.tuple #[])).run Tryd.prog w = .ok (.pointer (some ⟨w.heap.size, 0, none⟩)) (w.alloc (.cells zs.toArray T))
/-- A slice of nothing. -/
def MakesNone (TS T : TypeId) : Prop := ∀ w : World, (Instr.buildSlice TS 0 #[]).run Tryd.prog w = .ok (.slice (some ⟨w.heap.size, 0, none⟩) 0 0) (w.alloc (.cells #[] T))
theorem step_alloc (hr : AllocsAs T zs) (hg : o.guard = none) (hop : o.op = .alloc T) (B : Nat) (hB : B ≤ w.heap.size)
    (h : ∀ w' b, BxZ w' B b zs → Below w.heap.size w w' → w.heap.size ≤ b → b < w'.heap.size → K (a.put o.dst (.pointer (some ⟨b, 0, none⟩))) w') :
    if Region.wanted o (yielded ops a.tmps) = true then Oper.wp Tryd.prog o a w K Q else F := by
  have hw : Region.wanted o (yielded ops a.tmps) = true := by simp [Region.wanted, hg]
  rw [if_pos hw]
  have h4 := h _ w.heap.size (BxZ.new w zs T hB) ((Below.refl _ _).alloc (Nat.le_refl _) _) (Nat.le_refl _) (by simp)
  unfold Oper.wp
  simp [execOp, hop, hr w, Result.andThen]
  exact h4
theorem step_made (hr : MakesNone TS T) (hg : o.guard = none) (hop : o.op = .buildSlice TS 0 #[])
    (h : ∀ w' a0, Below w.heap.size w w' → K (a.put o.dst (.slice a0 0 0)) w') :
    if Region.wanted o (yielded ops a.tmps) = true then Oper.wp Tryd.prog o a w K Q else F := by
  have hw : Region.wanted o (yielded ops a.tmps) = true := by simp [Region.wanted, hg]
  rw [if_pos hw]
  have h4 := h _ (some ⟨w.heap.size, 0, none⟩) ((Below.refl _ _).alloc (Nat.le_refl _) (.cells #[] T))
  unfold Oper.wp
  simp [execOp, hop, hr w, Result.andThen]
  exact h4
end
/-- What touches from base on touches no block below. -/
theorem touch_base {α : Type} {T TS : TypeId} {z : Value} {sz bytes : Nat} {cl : α → List Value} {w : World} {base b : Nat} {v : Value} {ms : List α} (E : Elem T TS z sz bytes cl) (h : ApR T sz cl w base v ms) (hb : b < base) : touch v ≠ some b := fun e => by have := (h.touched E e).1; omega
end Go.Proofs.YthndkkjgjhgdnaaDoor
namespace Go.Proofs.YthndkkjgjhgdnaaDoor
open Go.ChangeShapes Go.WideShapes Go.ChangeAt Go.RowKit
set_option linter.unusedVariables false

/-- Block pk holds the place x, and may be written. -/
def Plc (w : World) (pk : Nat) (x : Int) : Prop := w.cell? ⟨pk, 0, none⟩ = some (.int .i64 x) ∧ w.frozen? ⟨pk, 0, none⟩ = false
/-- The reader of v at block pk. -/
def rdr (v : Value) (pk : Nat) : Value := .agg #[v, .pointer (some ⟨pk, 0, none⟩)]
theorem Plc.below {w w' : World} {pk : Nat} {x : Int} (h : Plc w pk x) (hb : Below w.heap.size w w') : Plc w' pk x :=
  ⟨(hb.cell (p := ⟨pk, 0, none⟩) (dCell_lt h.1)).trans h.1, (hb.frozen (p := ⟨pk, 0, none⟩) (dCell_lt h.1)).trans h.2⟩

set_option maxHeartbeats 1000000 in
theorem next_no (v : Value) (bs : List UInt8) (pk : Nat) (x : Int) (w : World) (hv : Bs w v bs) (hp : Plc w pk x) (hx : x < 0 ∨ (bs.length : Int) ≤ x) :
    Calls Tryd.prog 87 #[rdr v pk] w fun e w' => e = .returned (.tuple #[.int .i64 0, .bool false]) ∧ Below w.heap.size w w' := by
  obtain ⟨h0, a, cap, rfl, -, hv⟩ := hv
  clear hv
  obtain ⟨p1, p2⟩ := hp
  have plt := dCell_lt p1
  unfold rdr
  by_cases h : x < 0
  · go_enter Tryd.func87, Tryd.ntmps87
    go_wp2
    go_ret2
    exact ⟨rfl, (Below.refl _ _).alloc (Nat.le_refl _) _⟩
  · have h2 : (bs.length : Int) ≤ x := by omega
    go_enter Tryd.func87, Tryd.ntmps87
    go_wp2
    go_ret2
    exact ⟨rfl, (Below.refl _ _).alloc (Nat.le_refl _) _⟩
set_option maxHeartbeats 1000000 in
theorem next_yes (v : Value) (bs : List UInt8) (pk : Nat) (x : Nat) (w : World) (hv : Bs w v bs) (hp : Plc w pk (x : Int)) (hx : x < bs.length) (hne : blockOf v ≠ pk) :
    Calls Tryd.prog 87 #[rdr v pk] w fun e w' => e = .returned (.tuple #[.int .i64 ((bs[x]'hx).toNat : Int), .bool true]) ∧ Plc w' pk ((x + 1 : Nat) : Int) ∧ Drawn pk w w' := by
  obtain ⟨h0, a, cap, rfl, -, hv⟩ := hv
  obtain ⟨b, off, rfl, hc⟩ := or_of_lt hv hx
  obtain ⟨p1, p2⟩ := hp
  have plt := dCell_lt p1
  have c1 := hc x hx
  have clt := dCell_lt c1
  have hne' : b ≠ pk := by simpa [blockOf] using hne
  have hd256 : (bs[x]'hx).toNat < 256 := (bs[x]'hx).toNat_lt
  unfold rdr
  clear hv hc hne
  generalize (bs[x]'hx).toNat = d at *
  have a1 : ¬ ((x : Int) < 0) := by omega
  have a2 : ¬ ((bs.length : Int) ≤ (x : Int)) := by omega
  go_enter Tryd.func87, Tryd.ntmps87
  go_wp2
  go_ret2
  have hd : Drawn pk w (w.setCell ⟨pk, 0, none⟩ (.int .i64 ((x + 1 : Nat) : Int))) := (Drawn.refl pk w).setCell 0 _
  have hps : Plc (w.setCell ⟨pk, 0, none⟩ (.int .i64 ((x + 1 : Nat) : Int))) pk ((x + 1 : Nat) : Int) := ⟨World.cell?_setCell_same _ _ _ p1, (World.frozen?_setCell _ _ _ _).trans p2⟩
  have hb : ∀ o, Below (w.setCell ⟨pk, 0, none⟩ (.int .i64 ((x + 1 : Nat) : Int))).heap.size (w.setCell ⟨pk, 0, none⟩ (.int .i64 ((x + 1 : Nat) : Int))) ((w.setCell ⟨pk, 0, none⟩ (.int .i64 ((x + 1 : Nat) : Int))).alloc o) := fun o => (Below.refl _ _).alloc (Nat.le_refl _) o
  exact ⟨rfl, hps.below (hb _), hd.trans (Drawn.of_below (hb _))⟩
end Go.Proofs.YthndkkjgjhgdnaaDoor
