/- impl's reader of bytes: next. -/
import Derived.Test.YthndkkjgjhgdnaaDoorGaA
namespace Go.Proofs.YthndkkjgjhgdnaaDoor
open Go.ChangeShapes Go.WideShapes Go.ChangeAt Go.RowKit
set_option linter.unusedVariables false

/-- Block pk holds the place x, and may be written. -/
def Plc (w : World) (pk : Nat) (x : Int) : Prop := w.cell? ⟨pk, 0, none⟩ = some (.int .i64 x) ∧ w.frozen? ⟨pk, 0, none⟩ = false
/-- The reader of v at block pk. -/
def rdr (v : Value) (pk : Nat) : Value := .agg #[v, .pointer (some ⟨pk, 0, none⟩)]
theorem Plc.below {w w' : World} {pk : Nat} {x : Int} (h : Plc w pk x) (hb : Below w.heap.size w w') : Plc w' pk x :=
  ⟨(hb.cell (p := ⟨pk, 0, none⟩) (dCell_lt h.1)).trans h.1, (hb.frozen (p := ⟨pk, 0, none⟩) (dCell_lt h.1)).trans h.2⟩

set_option maxHeartbeats 1000000 in
theorem next_no (v : Value) (bs : List UInt8) (pk : Nat) (x : Int) (w : World) (hv : Bs w v bs) (hp : Plc w pk x) (hx : x < 0 ∨ (bs.length : Int) ≤ x) :
    Calls Tryd.prog 87 #[rdr v pk] w fun e w' => e = .returned (.tuple #[.int .i64 0, .bool false]) ∧ Below w.heap.size w w' := by
  obtain ⟨h0, a, cap, rfl, -, hv⟩ := hv
  clear hv
  obtain ⟨p1, p2⟩ := hp
  have plt := dCell_lt p1
  unfold rdr
  by_cases h : x < 0
  · go_enter Tryd.func87, Tryd.ntmps87
    go_wp2
    go_ret2
    exact ⟨rfl, (Below.refl _ _).alloc (Nat.le_refl _) _⟩
  · have h2 : (bs.length : Int) ≤ x := by omega
    go_enter Tryd.func87, Tryd.ntmps87
    go_wp2
    go_ret2
    exact ⟨rfl, (Below.refl _ _).alloc (Nat.le_refl _) _⟩
set_option maxHeartbeats 1000000 in
theorem next_yes (v : Value) (bs : List UInt8) (pk : Nat) (x : Nat) (w : World) (hv : Bs w v bs) (hp : Plc w pk (x : Int)) (hx : x < bs.length) (hne : blockOf v ≠ pk) :
    Calls Tryd.prog 87 #[rdr v pk] w fun e w' => e = .returned (.tuple #[.int .i64 ((bs[x]'hx).toNat : Int), .bool true]) ∧ Plc w' pk ((x + 1 : Nat) : Int) ∧ Drawn pk w w' := by
  obtain ⟨h0, a, cap, rfl, -, hv⟩ := hv
  obtain ⟨b, off, rfl, hc⟩ := or_of_lt hv hx
  obtain ⟨p1, p2⟩ := hp
  have plt := dCell_lt p1
  have c1 := hc x hx
  have clt := dCell_lt c1
  have hne' : b ≠ pk := by simpa [blockOf] using hne
  have hd256 : (bs[x]'hx).toNat < 256 := (bs[x]'hx).toNat_lt
  unfold rdr
  clear hv hc hne
  generalize (bs[x]'hx).toNat = d at *
  have a1 : ¬ ((x : Int) < 0) := by omega
  have a2 : ¬ ((bs.length : Int) ≤ (x : Int)) := by omega
  go_enter Tryd.func87, Tryd.ntmps87
  go_wp2
  go_ret2
  have hd : Drawn pk w (w.setCell ⟨pk, 0, none⟩ (.int .i64 ((x + 1 : Nat) : Int))) := (Drawn.refl pk w).setCell 0 _
  have hps : Plc (w.setCell ⟨pk, 0, none⟩ (.int .i64 ((x + 1 : Nat) : Int))) pk ((x + 1 : Nat) : Int) := ⟨World.cell?_setCell_same _ _ _ p1, (World.frozen?_setCell _ _ _ _).trans p2⟩
  have hb : ∀ o, Below (w.setCell ⟨pk, 0, none⟩ (.int .i64 ((x + 1 : Nat) : Int))).heap.size (w.setCell ⟨pk, 0, none⟩ (.int .i64 ((x + 1 : Nat) : Int))) ((w.setCell ⟨pk, 0, none⟩ (.int .i64 ((x + 1 : Nat) : Int))).alloc o) := fun o => (Below.refl _ _).alloc (Nat.le_refl _) o
  exact ⟨rfl, hps.below (hb _), hd.trans (Drawn.of_below (hb _))⟩
end Go.Proofs.YthndkkjgjhgdnaaDoor
