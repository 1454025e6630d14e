/- What lies in a span of blocks: facts that hang on the blocks lo .. hi - 1 alone ('Sits'), and what writes into such a span and new blocks alone ('Wr'). -/
import Derived.Test.YtmgomacmaidmlaaGreatDoorFourP
namespace Go.Proofs.YtmgomacmaidmlaaGreatDoor
open Go.ChangeShapes Go.WideShapes Go.ChangeAt Go.RowKit
set_option linter.unusedVariables false

/-- w' is w but for the blocks lo .. hi - 1 and new ones. -/
structure Wr (lo hi : Nat) (w w' : World) : Prop where
  os : w'.os = w.os
  tape : w'.tape = w.tape
  output : w'.output = w.output
  size : w.heap.size ≤ w'.heap.size
  block : ∀ k, k < w.heap.size → (k < lo ∨ hi ≤ k) → w'.heap[k]? = w.heap[k]?
theorem Wr.of_below {lo hi : Nat} {w w' : World} (h : Below w.heap.size w w') : Wr lo hi w w' := ⟨h.os, h.tape, h.output, h.size, fun k hk _ => h.block k hk⟩
theorem Wr.of_drawn {lo hi bk : Nat} {w w' : World} (h : Drawn bk w w') (h1 : lo ≤ bk) (h2 : bk < hi) : Wr lo hi w w' := ⟨h.os, h.tape, h.output, h.size, fun k hk hn => h.block k hk (by omega)⟩
theorem Wr.refl (lo hi : Nat) (w : World) : Wr lo hi w w := ⟨rfl, rfl, rfl, Nat.le_refl _, fun _ _ _ => rfl⟩
theorem Wr.trans {lo hi : Nat} {a b c : World} (h : Wr lo hi a b) (k : Wr lo hi b c) : Wr lo hi a c :=
  ⟨k.os.trans h.os, k.tape.trans h.tape, k.output.trans h.output, Nat.le_trans h.size k.size, fun j hj hn => (k.block j (Nat.lt_of_lt_of_le hj h.size) hn).trans (h.block j hj hn)⟩
theorem Wr.wider {lo hi lo' hi' : Nat} {a b : World} (h : Wr lo hi a b) (h1 : lo' ≤ lo) (h2 : hi ≤ hi') : Wr lo' hi' a b := ⟨h.os, h.tape, h.output, h.size, fun j hj hn => h.block j hj (by omega)⟩
theorem Wr.below {lo hi B : Nat} {w0 w w' : World} (h : Wr lo hi w w') (hb : Below B w0 w) (hB : B ≤ w.heap.size) (hl : B ≤ lo) : Below B w0 w' :=
  hb.trans ⟨h.os, h.tape, h.output, h.size, fun k hk => h.block k (Nat.lt_of_lt_of_le hk hB) (by omega)⟩
/-- P holds in every world that has the blocks lo .. hi - 1 of w. -/
structure Sits (P : World → Prop) (lo hi : Nat) (w : World) : Prop where
  fit : hi ≤ w.heap.size
  all : ∀ w' : World, (∀ k, lo ≤ k → k < hi → w'.heap[k]? = w.heap[k]?) → P w'
theorem Sits.now {P : World → Prop} {lo hi : Nat} {w : World} (h : Sits P lo hi w) : P w := h.all w fun _ _ _ => rfl
theorem Sits.below {P : World → Prop} {lo hi : Nat} {w w' : World} (h : Sits P lo hi w) (b : Below w.heap.size w w') : Sits P lo hi w' :=
  ⟨Nat.le_trans h.fit b.size, fun W hW => h.all W fun k h1 h2 => (hW k h1 h2).trans (b.block k (by have := h.fit; omega))⟩
theorem Sits.wr {P : World → Prop} {lo hi lo' hi' : Nat} {w w' : World} (h : Sits P lo hi w) (b : Wr lo' hi' w w') (hd : hi ≤ lo' ∨ hi' ≤ lo) : Sits P lo hi w' :=
  ⟨Nat.le_trans h.fit b.size, fun W hW => h.all W fun k h1 h2 => (hW k h1 h2).trans (b.block k (by have := h.fit; omega) (by omega))⟩
theorem Sits.at {P : World → Prop} {lo hi : Nat} {w W : World} (h : Sits P lo hi w) (b : Below w.heap.size w W) : P W := (h.below b).now
theorem Sits.imp {P Q : World → Prop} {lo hi : Nat} {w : World} (h : Sits P lo hi w) (f : ∀ W, P W → Q W) : Sits Q lo hi w := ⟨h.fit, fun W hW => f W (h.all W hW)⟩
theorem Sits.and {P Q : World → Prop} {lo hi lo' hi' : Nat} {w : World} (h : Sits P lo hi w) (k : Sits Q lo' hi' w) : Sits (fun W => P W ∧ Q W) (min lo lo') (max hi hi') w :=
  ⟨by have := h.fit; have := k.fit; omega, fun W hW => ⟨h.all W fun j h1 h2 => hW j (by omega) (by omega), k.all W fun j h1 h2 => hW j (by omega) (by omega)⟩⟩
/-- The cells of a block. -/
def Box (b : Nat) (vs : Array Value) (W : World) : Prop := ∀ i v, vs[i]? = some v → W.cell? ⟨b, i, none⟩ = some v
theorem Sits.box (w : World) (vs : Array Value) (T : TypeId) : Sits (Box w.heap.size vs) w.heap.size (w.heap.size + 1) (w.alloc (.cells vs T)) := by
  refine ⟨by simp, fun W hW i v hv => ?_⟩
  have e := hW w.heap.size (Nat.le_refl _) (by omega)
  have : (w.alloc (.cells vs T)).cell? ⟨w.heap.size, i, none⟩ = some v := by simpa using hv
  rw [← this]
  exact World.cell?_of_block e
theorem Below.step {B : Nat} {w0 w w' : World} (h : Below w0.heap.size w0 w) (k : Below w.heap.size w w') : Below w0.heap.size w0 w' := belowThen h k
end Go.Proofs.YtmgomacmaidmlaaGreatDoor
