/- Several texts in one: IntsEq, IntsTo, IntsMk, SitN, DomD, DomE, DomH, DomF, DomG. -/
import Derived.Test.YtodfgehicpejgaaGreatDoorGk172
import Derived.Laws.MakeOwn
import Derived.OwnWalk
import Derived.Test.YtodfgehicpejgaaGreatDoorGk171
import Derived.Deep.RegionHeld3
namespace Go.Proofs.YtodfgehicpejgaaGreatDoor
open Go.ChangeShapes Go.WideShapes Go.ChangeAt Go.RowKit
set_option linter.unusedVariables false
theorem infoN : (Tryz.prog.info? 3).map (fun i => (i.zero, i.size, i.bytes)) = some (some (.int .i64 0), 1, 8) := by kernel_rfl
def zerosN (n : Nat) : Array Value := madeCells (Value.int .i64 0).cells n
theorem zerosN_at (n i : Nat) (h : i < n) : (zerosN n)[i]? = some (.int .i64 0) := by
 simp [zerosN, madeCells, h, Nat.mod_one, Value.cells]
theorem makeN (n : Nat) (h : n ≤ 1099511627776) (w : World) : (Instr.makeSlice 24 (.int .i64 (n : Int)) (.int .i64 (n : Int))).run Tryz.prog w = .ok (.slice (some ⟨w.heap.size, 0, none⟩) n n) (w.alloc (.cells (zerosN n) 3)) := by
 obtain ⟨i0, hi, hz0, hz1, hz2⟩ := info_parts infoN
 have := run_make (P := Tryz.prog) w 24 3 i0 (.int .i64 0) Tryz.underlying24 hi hz0 .i64 .i64 (n : Int) (n : Int) (by omega) (by omega) (by rw [hz2]; omega) (by omega)
 rw [hz1] at this
 simpa [zerosN] using this
def CopyInvN (w wr : World) (g k : Nat) (bs : List Int) : Prop :=
 (∀ i (h : i < bs.length), ∃ c : Int, wr.cell? ⟨g, i, none⟩ = some (.int .i64 c) ∧ (i < k → c = bs[i]) ∧ wr.frozen? ⟨g, i, none⟩ = false) ∧ k ≤ bs.length ∧ Below w.heap.size w wr ∧ w.heap.size ≤ g ∧ g < wr.heap.size
theorem CopyInvN.start {w : World} {bs : List Int} : CopyInvN w (w.alloc (.cells (zerosN bs.length) 3)) w.heap.size 0 bs := by
 refine ⟨fun i hi => ⟨0, ?_, fun h => by omega, ?_⟩, Nat.zero_le _, (Below.refl _ _).alloc (Nat.le_refl _) _, Nat.le_refl _, by simp⟩
 ·have := MapKept.heap_alloc w (.cells (zerosN bs.length) 3)
  simp only [World.cell?, this.1]
  exact zerosN_at _ _ hi
 ·have := MapKept.heap_alloc w (.cells (zerosN bs.length) 3)
  simp only [World.frozen?, this.1]
  simp
theorem CopyInvN.now {w wr : World} {g k : Nat} {bs : List Int} (h : Hid (CopyInvN w wr g k bs)) (hk : k < bs.length) : (∃ c : Int, wr.cell? ⟨g, k, none⟩ = some (.int .i64 c)) ∧ wr.frozen? ⟨g, k, none⟩ = false := by
 obtain ⟨c, h1, -, h3⟩ := h.1 k hk
 exact ⟨⟨c, h1⟩, h3⟩
theorem CopyInvN.step {w wr : World} {g k : Nat} {bs : List Int} (h : Hid (CopyInvN w wr g k bs)) (hk : k < bs.length) {x : Int} (hx : x = bs[k]) : CopyInvN w (wr.setCell ⟨g, k, none⟩ (.int .i64 x)) g (k + 1) bs := by
 obtain ⟨h1, h2, h3, h4, h5⟩ := h
 refine ⟨fun i hi => ?_, hk, h3.setCell h4 _, h4, by simpa using h5⟩
 obtain ⟨c, c1, c2, c3⟩ := h1 i hi
 by_cases e : i = k
 ·subst e
  exact ⟨x, World.cell?_setCell_same _ _ _ c1, fun _ => hx, (World.frozen?_setCell _ _ _ _).trans c3⟩
 ·exact ⟨c, sO c1 (by omega), fun hi' => c2 (by omega), (World.frozen?_setCell _ _ _ _).trans c3⟩
theorem CopyInvN.done {w wr : World} {g : Nat} {bs : List Int} (h : Hid (CopyInvN w wr g bs.length bs)) (h0 : bs.length ≤ 9223372036854775807) : OwnN wr w.heap.size (.slice (some ⟨g, 0, none⟩) bs.length bs.length) bs := by
 obtain ⟨h1, h2, h3, h4, h5⟩ := h
 refine ⟨h0, some ⟨g, 0, none⟩, _, rfl, ⟨Nat.le_refl _, h0⟩, .inr ⟨g, 0, rfl, h4, fun i hi => ?_⟩⟩
 obtain ⟨c, c1, c2, c3⟩ := h1 i hi
 rw [← c2 hi, Nat.zero_add]
 exact ⟨c1, c3⟩
def marksN (k n : Nat) : List Int := (List.range n).map fun i => ((k + i : Nat) : Int)
theorem marksN_len (k n : Nat) : (marksN k n).length = n := by simp [marksN]
theorem marksN_at (k n i : Nat) (h : i < (marksN k n).length) : (marksN k n)[i] = ((k + i : Nat) : Int) := by simp [marksN]
def MarkInvN (w wr : World) (b off k0 k : Nat) (bs : List Int) : Prop :=
 (∀ i, i < bs.length → ∃ c : Int, wr.cell? ⟨b, off + i, none⟩ = some (.int .i64 c) ∧ (i < k → c = ((k0 + i : Nat) : Int)) ∧ wr.frozen? ⟨b, off + i, none⟩ = false) ∧ k ≤ bs.length ∧ Drawn b w wr ∧ (k = 0 → wr = w)
theorem MarkInvN.start {w : World} {b off k0 : Nat} {bs : List Int} (hc : Hid (∀ i (h : i < bs.length), w.cell? ⟨b, off + i, none⟩ = some (.int .i64 bs[i]) ∧ w.frozen? ⟨b, off + i, none⟩ = false)) : MarkInvN w w b off k0 0 bs :=
 ⟨fun i hi => ⟨_, (hc i hi).1, fun h => by omega, (hc i hi).2⟩, Nat.zero_le _, Drawn.refl _ _, fun _ => rfl⟩
theorem MarkInvN.now {w wr : World} {b off k0 k : Nat} {bs : List Int} (h : Hid (MarkInvN w wr b off k0 k bs)) (hk : k < bs.length) : (∃ c : Int, wr.cell? ⟨b, off + k, none⟩ = some (.int .i64 c)) ∧ wr.frozen? ⟨b, off + k, none⟩ = false := by
 obtain ⟨c, h1, -, h3⟩ := h.1 k hk
 exact ⟨⟨c, h1⟩, h3⟩
theorem MarkInvN.step {w wr : World} {b off k0 k : Nat} {bs : List Int} (h : Hid (MarkInvN w wr b off k0 k bs)) (hk : k < bs.length) {x : Int} (hx : x = ((k0 + k : Nat) : Int)) : MarkInvN w (wr.setCell ⟨b, off + k, none⟩ (.int .i64 x)) b off k0 (k + 1) bs := by
 obtain ⟨h1, h2, h3, -⟩ := h
 refine ⟨fun i hi => ?_, hk, h3.setCell _ _, fun h => by omega⟩
 obtain ⟨c, c1, c2, c3⟩ := h1 i hi
 by_cases e : i = k
 ·subst e
  exact ⟨x, World.cell?_setCell_same _ _ _ c1, fun _ => hx, (World.frozen?_setCell _ _ _ _).trans c3⟩
 ·exact ⟨c, sO c1 (by omega), fun hi' => c2 (by omega), (World.frozen?_setCell _ _ _ _).trans c3⟩
theorem MarkInvN.done {w wr : World} {b off k0 cap base : Nat} {bs : List Int} (h : Hid (MarkInvN w wr b off k0 bs.length bs)) (h0 : bs.length ≤ 9223372036854775807) (hcap : bs.length ≤ cap ∧ cap ≤ 9223372036854775807) (hb : base ≤ b) : OwnN wr base (.slice (some ⟨b, off, none⟩) bs.length cap) (marksN k0 bs.length) := by
 obtain ⟨h1, h2, h3, -⟩ := h
 refine ⟨by rw [marksN_len]; exact h0, some ⟨b, off, none⟩, cap, by rw [marksN_len], by rw [marksN_len]; exact hcap, .inr ⟨b, off, rfl, hb, fun i hi => ?_⟩⟩
 have hi' : i < bs.length := by simpa [marksN_len] using hi
 obtain ⟨c, c1, c2, c3⟩ := h1 i hi'
 rw [marksN_at, ← c2 hi']
 exact ⟨c1, c3⟩
def OwN (lo hi : Nat) (v : Value) (xs : List Int) (W : World) : Prop := OwnN W lo v xs ∧ (xs = [] ∨ bO v < hi)
theorem OwN.rd {lo hi : Nat} {v : Value} {xs : List Int} {W : World} (h : OwN lo hi v xs W) : Ns W v xs := h.1.bs
theorem Ns.lt {w : World} {v : Value} {xs : List Int} (h : Ns w v xs) : xs = [] ∨ bO v < w.heap.size := by
 obtain ⟨-, a, cap, rfl, -, h⟩ := h
 rcases h with h | ⟨b, off, rfl, hc⟩
 ·exact .inl h
 ·rcases Nat.eq_zero_or_pos xs.length with h1 | h1
  ·exact .inl (List.length_eq_zero_iff.1 h1)
  ·exact .inr (dCell_lt (hc 0 h1))
theorem OwnN.ge {w : World} {base : Nat} {v : Value} {xs : List Int} (h : OwnN w base v xs) : xs = [] ∨ base ≤ bO v := by
 obtain ⟨-, a, cap, rfl, -, h⟩ := h
 rcases h with h | ⟨b, off, rfl, hb, hc⟩
 ·exact .inl h
 ·exact .inr hb
theorem Ns.sits {w : World} {v : Value} {xs : List Int} (h : Ns w v xs) : Sits (fun W => Ns W v xs) 0 w.heap.size w := by
 refine ⟨Nat.le_refl _, fun W hW => ?_⟩
 obtain ⟨h0, a, cap, rfl, hcap, h⟩ := h
 refine ⟨h0, a, cap, rfl, hcap, ?_⟩
 rcases h with h | ⟨b, off, rfl, hc⟩
 ·exact .inl h
 ·exact .inr ⟨b, off, rfl, fun i hi => (World.cell?_of_block (a := ⟨b, off + i, none⟩) (hW b (Nat.zero_le _) (dCell_lt (hc i hi)))).trans (hc i hi)⟩
theorem OwN.sits {lo hi : Nat} {w : World} {v : Value} {xs : List Int} (h : OwN lo hi v xs w) (hf : hi ≤ w.heap.size) : Sits (OwN lo hi v xs) lo hi w := by
 refine ⟨hf, fun W hW => ⟨?_, h.2⟩⟩
 obtain ⟨⟨h0, a, cap, rfl, hcap, h⟩, hl⟩ := h
 refine ⟨h0, a, cap, rfl, hcap, ?_⟩
 rcases hl with hl | hl
 ·exact .inl hl
 ·rcases h with h | ⟨b, off, rfl, hb, hc⟩
  ·exact .inl h
  ·have e := hW b hb hl
   exact .inr ⟨b, off, rfl, hb, fun i hi => ⟨(World.cell?_of_block (a := ⟨b, off + i, none⟩) e).trans (hc i hi).1, (World.frozen?_of_block (a := ⟨b, off + i, none⟩) e).trans (hc i hi).2⟩⟩
theorem OwnN.sits {w : World} {base : Nat} {v : Value} {xs : List Int} (h : OwnN w base v xs) : Sits (OwN base w.heap.size v xs) base w.heap.size w := OwN.sits ⟨h, h.bs.lt⟩ (Nat.le_refl _)
def domAt (ds : List Int) (i : Int) : Int := ds.getD i.toNat 0
def addD (acc : List Int) (d : Int) : List Int := if acc.contains d then acc else acc ++ [d]
def domsOf (ds xs : List Int) : List Int := (xs.map (domAt ds)).foldl addD []
def spanN (ds xs : List Int) : Nat := (domsOf ds xs).length
theorem domsOf_take (ds xs : List Int) (k : Nat) (h : k < xs.length) : domsOf ds (xs.take (k + 1)) = addD (domsOf ds (xs.take k)) (domAt ds xs[k]) := by
 rw [domsOf, List.take_succ_eq_append_getElem h, List.map_append, List.foldl_append]
 rfl
theorem addD_len (acc : List Int) (d : Int) : (addD acc d).length ≤ acc.length + 1 := by
 unfold addD
 split
 ·omega
 ·simp
theorem domsOf_len (ds xs : List Int) (k : Nat) (h : k ≤ xs.length) : (domsOf ds (xs.take k)).length ≤ k := by
 induction k with
 | zero => simp [domsOf]
 | succ n ih =>
  rw [domsOf_take ds xs n (by omega)]
  have := addD_len (domsOf ds (xs.take n)) (domAt ds xs[n])
  have := ih (by omega)
  omega
def Seen (w : World) (g : Nat) (acc : List Int) : Prop := ∀ j : Nat, j < 8 → w.cell? ⟨g, j, none⟩ = some (.bool (acc.contains (j : Int))) ∧ w.frozen? ⟨g, j, none⟩ = false
theorem Seen.step {w : World} {g : Nat} {acc : List Int} (h : Seen w g acc) (d : Nat) (hd : acc.contains (d : Int) = false) : Seen (w.setCell ⟨g, d, none⟩ (.bool true)) g (addD acc (d : Int)) := by
 intro j hj
 obtain ⟨h1, h2⟩ := h j hj
 refine ⟨?_, (World.frozen?_setCell _ _ _ _).trans h2⟩
 have e : addD acc (d : Int) = acc ++ [(d : Int)] := by rw [addD, hd]; rfl
 rw [e]
 by_cases hjd : j = d
 ·subst hjd
  rw [World.cell?_setCell_same _ _ _ h1]
  simp
 ·rw [sO h1 (by omega)]
  have hne : ¬ ((j : Int) = (d : Int)) := by omega
  simp [hne]
def flags8 : Array Value := madeCells (Value.bool false).cells 8
theorem flags8_at (j : Nat) (h : j < 8) : flags8[j]? = some (.bool false) := by
 simp [flags8, madeCells, h, Nat.mod_one, Value.cells]
theorem Seen.new (w : World) (T : TypeId) : Seen (w.alloc (.cells flags8 T)) w.heap.size [] := by
 intro j hj
 have := MapKept.heap_alloc w (.cells flags8 T)
 refine ⟨?_, ?_⟩
 ·simp only [World.cell?, this.1]
  simpa using flags8_at j hj
 ·simp only [World.frozen?, this.1]
  simp
theorem Seen.below {w w' : World} {g : Nat} {acc : List Int} (h : Seen w g acc) (hb : Below w.heap.size w w') : Seen w' g acc := fun j hj => by
 obtain ⟨h1, h2⟩ := h j hj
 have lt := dCell_lt h1
 exact ⟨(hb.cell (p := ⟨g, j, none⟩) lt).trans h1, (hb.frozen (p := ⟨g, j, none⟩) lt).trans h2⟩
def inP (ds : List Int) (cop : Int) (xs : List Int) : Prop := cfgP ds cop ∧ ∀ i (h : i < xs.length), 0 ≤ xs[i] ∧ xs[i] ≤ (ds.length : Int) - 1
theorem inP_of {ds : List Int} {cop : Int} {xs : List Int} (h : nodesP ds cop xs) : inP ds cop xs := ⟨h.1, fun i hi => ⟨(h.2 i hi).1, (h.2 i hi).2.1⟩⟩
theorem domAt_in' {ds : List Int} {cop : Int} {xs : List Int} (h : inP ds cop xs) (k : Nat) (hk : k < xs.length) :
  ∃ i d : Nat, xs[k] = (i : Int) ∧ ∃ hi : i < ds.length, ds[i] = (d : Int) ∧ d < 8 ∧ domAt ds xs[k] = (d : Int) := by
 obtain ⟨a1, a2⟩ := h.2 k hk
 obtain ⟨i, hi⟩ := Int.eq_ofNat_of_zero_le a1
 have hil : i < ds.length := by omega
 obtain ⟨b1, b2⟩ := h.1.2.2 i hil
 obtain ⟨d, hd⟩ := Int.eq_ofNat_of_zero_le b1
 refine ⟨i, d, hi, hil, hd, by omega, ?_⟩
 rw [domAt, hi, Int.toNat_natCast]
 simp [List.getD, hil, hd]
theorem domAt_in {ds : List Int} {cop : Int} {xs : List Int} (h : nodesP ds cop xs) (k : Nat) (hk : k < xs.length) :
  ∃ i d : Nat, xs[k] = (i : Int) ∧ ∃ hi : i < ds.length, ds[i] = (d : Int) ∧ d < 8 ∧ domAt ds xs[k] = (d : Int) := domAt_in' (inP_of h) k hk
def Two (w : World) (b : Nat) (c0 c1 : Value) : Prop := w.cell? ⟨b, 0, none⟩ = some c0 ∧ w.cell? ⟨b, 1, none⟩ = some c1
theorem Two.kept {w w' : World} {b : Nat} {c0 c1 : Value} (h : Two w b c0 c1) (hb : Below w.heap.size w w') : Two w' b c0 c1 := by
 have lt := dCell_lt h.1
 exact ⟨(hb.cell (p := ⟨b, 0, none⟩) lt).trans h.1, (hb.cell (p := ⟨b, 1, none⟩) lt).trans h.2⟩
theorem Two.new (w : World) (c0 c1 : Value) (T : TypeId) : Two (w.alloc (.cells #[c0, c1] T)) w.heap.size c0 c1 := ⟨by simp, by simp⟩
def holdsP (ds : List Int) (cop : Int) (xs : List Int) : Prop := nodesP ds cop xs ∧ cop ≤ (spanN ds xs : Int)
theorem ascP_lt {xs : List Int} {lo hi : Int} (h : ascP xs lo hi) : ∀ j i (hj : j < xs.length) (hij : i < j), xs[i]'(by omega) < xs[j] := by
 intro j
 induction j with
 | zero => intro i hj hij; omega
 | succ n ih =>
  intro i hj hij
  have h1 := (h (n + 1) hj).2.2 (by omega)
  simp only [Nat.add_sub_cancel] at h1
  rcases Nat.lt_or_ge i n with hlt | hge
  ·have := ih i (by omega) hlt
   omega
  ·obtain rfl : i = n := by omega
   exact h1
theorem ascP_iff (xs : List Int) (lo hi : Int) : ascP xs lo hi ↔ xs.Pairwise (· < ·) ∧ ∀ x ∈ xs, lo ≤ x ∧ x ≤ hi := by
 constructor
 ·intro h
  refine ⟨List.pairwise_iff_getElem.2 fun i j hi' hj hij => ascP_lt h j i hj hij, fun x hx => ?_⟩
  obtain ⟨i, hi', rfl⟩ := List.getElem_of_mem hx
  exact ⟨(h i hi').1, (h i hi').2.1⟩
 ·rintro ⟨h1, h2⟩ i hi'
  have hb := h2 xs[i] (List.getElem_mem hi')
  exact ⟨hb.1, hb.2, fun h' => List.pairwise_iff_getElem.1 h1 (i - 1) i (by omega) hi' (by omega)⟩
end Go.Proofs.YtodfgehicpejgaaGreatDoor
