/- Several texts in one: DomJ, SetP, ChoA, ChoB, ChoC, AppN, DrwC, DrwD, ChoD. -/
import Derived.Test.YtodfgehicpejgaaGreatDoorGk136
import Derived.Test.YtodfgehicpejgaaGreatDoorGk172
import Derived.Maps.RangeWalk
import Derived.Carry
import Derived.Test.YtodfgehicpejgaaGreatDoorDrwB
import Derived.Laws.OwnMore
import Derived.Deep.RegionHeld3
import Derived.Deep.DeepCutAuto
namespace Go.Proofs.YtodfgehicpejgaaGreatDoor
open Go.ChangeShapes Go.WideShapes Go.ChangeAt Go.RowKit
set_option linter.unusedSimpArgs false
set_option linter.unusedVariables false
theorem len_le_of_sub {l : List Int} (hn : l.Nodup) : ∀ m : List Int, (∀ x ∈ l, x ∈ m) → l.length ≤ m.length := by
 induction l with
 | nil => intro m _; simp
 | cons a l ih =>
  intro m hs
  obtain ⟨s, t, rfl⟩ := List.append_of_mem (hs a (List.mem_cons_self ..))
  have hna : a ∉ l := (List.nodup_cons.1 hn).1
  have := ih (List.nodup_cons.1 hn).2 (s ++ t) (fun x hx => by
   have hxa : x ≠ a := fun e => hna (e ▸ hx)
   have h1 := hs x (List.mem_cons_of_mem _ hx)
   simp only [List.mem_append, List.mem_cons] at h1 ⊢
   rcases h1 with h1 | h1 | h1
   ·exact .inl h1
   ·exact absurd h1 hxa
   ·exact .inr h1)
  simp only [List.length_append, List.length_cons] at this ⊢
  omega
theorem mem_addD {acc : List Int} {d x : Int} : x ∈ addD acc d ↔ x ∈ acc ∨ x = d := by
 unfold addD
 by_cases h : acc.contains d = true
 ·rw [if_pos h]
  have h' : d ∈ acc := by simpa using h
  constructor
  ·exact .inl
  ·rintro (h1 | rfl)
   ·exact h1
   ·exact h'
 ·rw [if_neg h]
  simp
theorem nodup_addD {acc : List Int} {d : Int} (h : acc.Nodup) : (addD acc d).Nodup := by
 unfold addD
 by_cases hc : acc.contains d = true
 ·rw [if_pos hc]; exact h
 ·rw [if_neg hc]
  have h' : d ∉ acc := by simpa using hc
  refine List.nodup_append.2 ⟨h, by simp, ?_⟩
  intro a ha b hb e
  rw [List.mem_singleton.1 hb] at e
  exact h' (e ▸ ha)
theorem foldl_addD (l : List Int) : ∀ acc : List Int, (acc.Nodup → (l.foldl addD acc).Nodup) ∧ ∀ x, x ∈ l.foldl addD acc ↔ x ∈ acc ∨ x ∈ l := by
 induction l with
 | nil => intro acc; exact ⟨fun h => h, fun x => by simp⟩
 | cons a l ih =>
  intro acc
  obtain ⟨h1, h2⟩ := ih (addD acc a)
  refine ⟨fun h => h1 (nodup_addD h), fun x => ?_⟩
  rw [List.foldl_cons, h2 x, mem_addD, List.mem_cons, or_assoc]
theorem domsOf_nodup (ds xs : List Int) : (domsOf ds xs).Nodup := (foldl_addD _ []).1 List.nodup_nil
theorem mem_domsOf {ds xs : List Int} {d : Int} : d ∈ domsOf ds xs ↔ ∃ x ∈ xs, domAt ds x = d := by
 unfold domsOf
 rw [(foldl_addD _ []).2 d]
 simp
theorem spanN_mono {ds xs ys : List Int} (h : ∀ x ∈ xs, x ∈ ys) : spanN ds xs ≤ spanN ds ys := by
 refine len_le_of_sub (domsOf_nodup ds xs) _ fun d hd => ?_
 obtain ⟨x, hx, rfl⟩ := mem_domsOf.1 hd
 exact mem_domsOf.2 ⟨x, h x hx, rfl⟩
theorem keyI : Go.Maps.Keyed Tryz.prog 3 := Go.Maps.int_keyed Tryz.underlying3
theorem zeroU (w : World) : (zeroValue 269).run Tryz.prog w = .ok (.agg #[]) w := by kernel_rfl
theorem wf_int {z : Int} (h : -9223372036854775808 ≤ z ∧ z ≤ 9223372036854775807) : (Lit.int .i64 z).wf = true := WalkArith.wf_i64 (by omega)
theorem keyOf_z {z : Int} (h : -9223372036854775808 ≤ z ∧ z ≤ 9223372036854775807) : keyOf Tryz.prog 3 (.int .i64 z) = some (.int .i64 z) := Go.Maps.keyOf_int_mk Tryz.underlying3 (wf_int h)
theorem grownBy_of_below {w w' : World} (h : Below w.heap.size w w') : w.grownBy w' none := ⟨h.os, h.tape, h.output, h.size, fun k hk _ => h.block k hk⟩
theorem own_tight {P : Program} {k : TypeId} {R : Value → Option (DataW Unit × List MemPlace)} {w : World} {b n : Nat} {D : DataW Unit} (h : w.ownsMap P k R b n D) : w.ownsMap P k R b (Maps.size D) D := by
  obtain ⟨es, clock, hb, F, hs, rfl⟩ := h
  exact ⟨es, clock, hb, F, by simp [Maps.size, length_sorted], rfl⟩
def SetN (w : World) (b : Nat) (xs : List Int) : Prop :=
  xs.Nodup ∧ allInt xs ∧ ∃ D : DataW Unit, w.ownsMap Tryz.prog 3 (unitElem (H := Unit)) b xs.length D ∧ Maps.size D = xs.length ∧ ∀ z, Maps.has D (.int .i64 z) = decide (z ∈ xs)
theorem SetN.lt {w : World} {b : Nat} {xs : List Int} (h : SetN w b xs) : b < w.heap.size := by
  obtain ⟨-, -, D, h, -⟩ := h
  exact h.lt
theorem SetN.kept {w w' : World} {b : Nat} {xs : List Int} {row : Option Nat} (h : SetN w b xs) (hg : w.grownBy w' row) (hne : some b ≠ row) : SetN w' b xs := by
  obtain ⟨h1, h2, D, h3, h4⟩ := h
  exact ⟨h1, h2, D, h3.kept hg hne, h4⟩
theorem SetN.below {w w' : World} {b : Nat} {xs : List Int} (h : SetN w b xs) (hb : Below w.heap.size w w') : SetN w' b xs := h.kept (grownBy_of_below hb) (by simp)
theorem SetN.alloc {w : World} {b : Nat} {xs : List Int} (h : SetN w b xs) (o : Obj) : SetN (w.alloc o) b xs := h.kept (World.grownBy_alloc w o none) (by simp)
theorem SetN.made (w : World) : SetN (w.alloc (.map #[] 0)) w.heap.size [] := ⟨List.nodup_nil, (fun x h => by cases h), .map [], World.ownsMap_made _ _ _ _, rfl, fun z => by simp [Maps.has]⟩
theorem SetN.perm {w : World} {b : Nat} {xs ys : List Int} (h : SetN w b xs) (hp : xs.Perm ys) : SetN w b ys := by
  obtain ⟨h1, h2, D, h3, h4, h5⟩ := h
  refine ⟨hp.nodup_iff.1 h1, fun x hx => h2 x (hp.mem_iff.2 hx), D, by rw [← hp.length_eq]; exact h3, by rw [← hp.length_eq]; exact h4, fun z => by rw [h5 z]; simp [hp.mem_iff]⟩
def RangeN (w : World) (b r : Nat) (xs ys : List Int) : Prop :=
  xs.Nodup ∧ allInt xs ∧ ys.Nodup ∧ (∀ y ∈ ys, y ∈ xs) ∧ ∃ (D : DataW Unit) (left : Lit → Bool) (cnt : Nat), w.ranges Tryz.prog 3 (unitElem (H := Unit)) b r xs.length D left cnt ∧ Maps.size D = xs.length ∧ (∀ z, Maps.has D (.int .i64 z) = decide (z ∈ xs)) ∧ ∀ z, left (.int .i64 z) = (decide (z ∈ xs) && !decide (z ∈ ys))
theorem RangeN.set {w : World} {b r : Nat} {xs ys : List Int} (h : RangeN w b r xs ys) : SetN w b xs := by
  obtain ⟨h1, h2, -, -, D, left, cnt, h3, h4, h5, -⟩ := h
  exact ⟨h1, h2, D, h3.owns, h4, h5⟩
theorem RangeN.lt {w : World} {b r : Nat} {xs ys : List Int} (h : RangeN w b r xs ys) : r < w.heap.size := by
  obtain ⟨-, -, -, -, D, left, cnt, h3, -⟩ := h
  exact h3.lt
theorem RangeN.kept {w w' : World} {b r : Nat} {xs ys : List Int} {row : Option Nat} (h : RangeN w b r xs ys) (hg : w.grownBy w' row) (hb : some b ≠ row) (hr : some r ≠ row) : RangeN w' b r xs ys := by
  obtain ⟨h1, h2, h3, h4, D, left, cnt, h5, h6⟩ := h
  exact ⟨h1, h2, h3, h4, D, left, cnt, h5.kept hg hb hr, h6⟩
theorem RangeN.alloc {w : World} {b r : Nat} {xs ys : List Int} (h : RangeN w b r xs ys) (o : Obj) : RangeN (w.alloc o) b r xs ys := h.kept (World.grownBy_alloc w o none) (by simp) (by simp)
theorem RangeN.below {w w' : World} {b r : Nat} {xs ys : List Int} (h : RangeN w b r xs ys) (hb : Below w.heap.size w w') : RangeN w' b r xs ys := h.kept (grownBy_of_below hb) (by simp) (by simp)
theorem RangeN.left_kept {w w' : World} {b r : Nat} {xs ys : List Int} {row : Option Nat} (h : RangeN w b r xs ys) (hg : w.grownBy w' row) (hb : some b ≠ row) (hr : some r ≠ row) : w'.rangeLeft b r = w.rangeLeft b r := by
  obtain ⟨h1, h2, h3, h4, D, left, cnt, h5, h6⟩ := h
  rw [(h5.kept hg hb hr).left_eq, h5.left_eq]
theorem RangeN.left_below {w w' : World} {b r : Nat} {xs ys : List Int} (h : RangeN w b r xs ys) (hb : Below w.heap.size w w') : w'.rangeLeft b r = w.rangeLeft b r := h.left_kept (grownBy_of_below hb) (by simp) (by simp)
section
variable (w : World) {ops : Array Oper} {rest : List Oper} {o : Oper} {a : Act} {Q : Exit → Act → World → Prop}
theorem wp_setPut (hg : o.guard = none) (m x v : Operand) (hop : o.op = Op.mapUpdate 254 m x v) (b : Nat) (xs : List Int) (z : Int) (hm : a.eval m = .map (some b)) (h : SetN w b xs)
    (hx : a.eval x = .int .i64 z) (hz : -9223372036854775808 ≤ z ∧ z ≤ 9223372036854775807) (hv : a.eval v = .agg #[]) (hl : xs.length ≤ 1099511627776)
    (hK : ∀ w', SetN w' b (addD xs z) → w.grownBy w' (some b) → wpList Tryz.prog ops Q rest (a.put o.dst undef) w') : wpList Tryz.prog ops Q (o :: rest) a w := by
  obtain ⟨h1, h2, D, h3, h4, h5⟩ := h
  refine wpList_mapUpdate_own _ hg m x v 254 hop 3 269 keyI Tryz.underlying254 (unitElem (H := Unit)) b xs.length D hm h3 (by unfold maxLen; omega) _ _ (.int .i64 z) hx hv (keyOf_z hz) (.agg []) [] unitElem_mk ?_
  intro w' o1 g1
  refine hK w' ⟨nodup_addD h1, fun y hy => ?_, D.put (.int .i64 z) (.agg []), ?_, ?_, ?_⟩ g1
  · unfold addD at hy
    split at hy
    · exact h2 y hy
    · rcases List.mem_append.1 hy with hy | hy
      · exact h2 y hy
      · obtain rfl : y = z := by simpa using hy
        exact hz
  · have e : Maps.size (D.put (.int .i64 z) (.agg [])) = (addD xs z).length := by
      rw [Maps.size_put (h3.tidy keyI), h5 z, h4]
      unfold addD
      by_cases hzx : z ∈ xs <;> simp [hzx]
    rw [← e]
    exact own_tight o1
  · rw [Maps.size_put (h3.tidy keyI), h5 z, h4]
    unfold addD
    by_cases hzx : z ∈ xs <;> simp [hzx]
  · intro y
    by_cases hy : y = z
    · subst hy
      rw [Maps.has_put_same h3.isMap (keyI.key (keyOf_z hz))]
      unfold addD
      by_cases hzx : y ∈ xs <;> simp [hzx]
    · rw [Maps.has_put_other (by simpa using hy), h5 y]
      unfold addD
      by_cases hzx : z ∈ xs <;> simp [hzx, hy]
theorem wp_setRange (hg : o.guard = none) (m : Operand) (hop : o.op = Op.range 254 m) (b : Nat) (xs : List Int) (hm : a.eval m = .map (some b)) (h : SetN w b xs)
    (hK : ∀ w', RangeN w' b w.heap.size xs [] → w.grownBy w' none → w'.heap.size = w.heap.size + 1 → wpList Tryz.prog ops Q rest (a.put o.dst (.pointer (some ⟨w.heap.size, 0, none⟩))) w') : wpList Tryz.prog ops Q (o :: rest) a w := by
  obtain ⟨h1, h2, D, h3, h4, h5⟩ := h
  refine wpList_range_own _ hg m 254 hop 3 269 keyI Tryz.underlying254 (unitElem (H := Unit)) b xs.length D hm h3 ?_
  intro w' r1 g1 s1
  exact hK w' ⟨h1, h2, List.nodup_nil, (fun y h => by cases h), D, _, _, r1, h4, h5, fun z => by rw [h5 z]; simp⟩ g1 s1
theorem wp_setNext (hg : o.guard = none) (it : Operand) (hop : o.op = Op.next it false) (b r : Nat) (xs ys : List Int) (hit : a.eval it = .pointer (some ⟨r, 0, none⟩)) (h : RangeN w b r xs ys)
    (hDone : ys.Perm xs → wpList Tryz.prog ops Q rest (a.put o.dst (.tuple #[.bool false])) w)
    (hMore : ∀ (x : Int) (w' : World), x ∈ xs → x ∉ ys → RangeN w' b r xs (ys ++ [x]) → w'.rangeLeft b r < w.rangeLeft b r → w.grownBy w' (some r) →
      (Instr.entry (.pointer (some ⟨r, 0, none⟩))).run Tryz.prog w' = .ok (.tuple #[.int .i64 x, .agg #[]]) w' → wpList Tryz.prog ops Q rest (a.put o.dst (.tuple #[.bool true, .int .i64 x, .agg #[]])) w') : wpList Tryz.prog ops Q (o :: rest) a w := by
  obtain ⟨h1, h2, h3, h4, D, left, cnt, h5, h6, h7, h8⟩ := h
  refine wpList_next_ranges (α := Int) (β := Unit) _ hg it hop 3 keyI (unitElem (H := Unit)) (Value.int .i64) (fun _ => .agg #[]) (fun key kl hk => by obtain ⟨x, rfl, _⟩ := Maps.keyOf_int_inv Tryz.underlying3 hk; exact ⟨x, rfl⟩) (fun v y hv => ⟨(), (unitElem_inv hv).1⟩) b r xs.length D left cnt hit h5 ?_ ?_
  · intro hc hl0
    refine hDone ((List.perm_ext_iff_of_nodup h3 h1).2 fun z => ⟨fun hz => h4 z hz, fun hz => ?_⟩)
    have := h8 z
    rw [hl0] at this
    simp [hz] at this
    exact this
  · intro x c kl y w' cnt' hkey hlk hv hat hrg hlt hgr hsz hen
    obtain ⟨x', ex, rfl, hwx⟩ := Maps.keyOf_int_inv Tryz.underlying3 hkey
    cases ex
    have hx := h8 x
    rw [hlk] at hx
    simp only [Bool.true_eq, Bool.and_eq_true, decide_eq_true_eq, Bool.not_eq_true', decide_eq_false_iff_not] at hx
    refine hMore x w' hx.1 hx.2 ⟨h1, h2, ?_, ?_, D, _, cnt', hrg, h6, h7, fun z => ?_⟩ (by rw [hrg.left_eq, h5.left_eq]; exact hlt) hgr hen
    · refine List.nodup_append.2 ⟨h3, by simp, fun p hp q hq => ?_⟩
      obtain rfl : q = x := by simpa using hq
      intro e
      exact hx.2 (e ▸ hp)
    · intro z hz
      rcases List.mem_append.1 hz with hz | hz
      · exact h4 z hz
      · obtain rfl : z = x := by simpa using hz
        exact hx.1
    · rw [h8 z]
      by_cases hzx : z = x
      · subst hzx
        have : (Lit.int .i64 z).sameKey (.int .i64 z) = true := WideAt.sameKey_self (keyI.key hkey)
        simp [this]
      · have : (Lit.int .i64 z).sameKey (.int .i64 x) = false := Maps.sameKey_ne (by simpa using hzx)
        simp [this, hzx]
end
def bitOn (m : Int) (k : Nat) : Bool := m / 2 ^ k % 2 == 1
def bitsTo (m : Int) (k : Nat) : List Int := ((List.range k).filter fun i => bitOn m i).map fun i : Nat => (i : Int)
def maskL (m : Int) : List Int := if 0 ≤ m ∧ m ≤ 255 then bitsTo m 8 else []
theorem bitsTo_succ (m : Int) (k : Nat) : bitsTo m (k + 1) = if bitOn m k then bitsTo m k ++ [(k : Int)] else bitsTo m k := by
 unfold bitsTo
 rw [List.range_succ, List.filter_append, List.map_append]
 cases h : bitOn m k <;> simp [h]
theorem bitsTo_len (m : Int) (k : Nat) : (bitsTo m k).length ≤ k := by
 unfold bitsTo
 rw [List.length_map]
 exact Nat.le_trans (List.length_filter_le _ _) (by simp)
theorem i64_and1 (n : Int) : bits .and .i64 n 1 = n % 2 := by
 have h1 : (BitVec.ofInt 64 1).toNat = 2 ^ 1 - 1 := by decide
 have key : (BitVec.ofInt 64 n &&& BitVec.ofInt 64 1).toNat = (n % ((2 ^ 64 : Nat) : Int)).toNat % 2 ^ 1 := by
  rw [BitVec.toNat_and, BitVec.toNat_ofInt, h1, Nat.and_two_pow_sub_one_eq_mod]
 show IntKind.i64.wrap ((BitVec.ofInt 64 n &&& BitVec.ofInt 64 1).toNat : Nat) = n % 2
 rw [key, IntKind.wrap_i64]
 omega
def putA (y : Int) : List Int → List Int
 | [] => [y]
 | a :: l => if y < a then y :: a :: l else a :: putA y l
theorem putA_len (y : Int) (l : List Int) : (putA y l).length = l.length + 1 := by
 induction l with
 | nil => rfl
 | cons a l ih =>
  unfold putA
  split
  ·simp
  ·simp [ih]
theorem putA_snoc_yes {y a : Int} {l : List Int} (h : ∃ b ∈ l, y < b) : putA y (l ++ [a]) = putA y l ++ [a] := by
 induction l with
 | nil => obtain ⟨b, hb, -⟩ := h; cases hb
 | cons c l ih =>
  rw [List.cons_append]
  unfold putA
  by_cases hc : y < c
  ·rw [if_pos hc, if_pos hc]; rfl
  ·rw [if_neg hc, if_neg hc, ih ?_]
   ·rfl
   ·obtain ⟨b, hb, hy⟩ := h
    rcases List.mem_cons.1 hb with rfl | hb
    ·exact absurd hy hc
    ·exact ⟨b, hb, hy⟩
theorem mem_putA {y x : Int} {l : List Int} : x ∈ putA y l ↔ x = y ∨ x ∈ l := by
 induction l with
 | nil => simp [putA]
 | cons a l ih =>
  unfold putA
  split
  ·simp
  ·simp only [List.mem_cons, ih]
   constructor
   ·rintro (h | h | h)
    ·exact .inr (.inl h)
    ·exact .inl h
    ·exact .inr (.inr h)
   ·rintro (h | h | h)
    ·exact .inr (.inl h)
    ·exact .inl h
    ·exact .inr (.inr h)
theorem putA_asc {y : Int} {l : List Int} (h : l.Pairwise (· < ·)) (hy : y ∉ l) : (putA y l).Pairwise (· < ·) := by
 induction l with
 | nil => simp [putA]
 | cons a l ih =>
  obtain ⟨h1, h2⟩ := List.pairwise_cons.1 h
  unfold putA
  split
  ·rename_i hlt
   refine List.pairwise_cons.2 ⟨fun b hb => ?_, h⟩
   rcases List.mem_cons.1 hb with rfl | hb
   ·exact hlt
   ·have := h1 b hb
    omega
  ·rename_i hlt
   refine List.pairwise_cons.2 ⟨fun b hb => ?_, ih h2 fun hm => hy (by simp [hm])⟩
   rcases mem_putA.1 hb with rfl | hb
   ·have : b ≠ a := fun e => hy (by simp [e])
    omega
   ·exact h1 b hb
def PutAt (y : Int) (l zs : List Int) (p : Bool) : Prop := (p = true → (∃ b ∈ l, y < b) ∧ zs = putA y l) ∧ (p = false → (∀ b ∈ l, ¬ y < b) ∧ zs = l)
theorem PutAt.on {y x : Int} {l zs : List Int} {p : Bool} (h : PutAt y l zs p) (hx : p = true ∨ ¬ y < x) : PutAt y (l ++ [x]) (zs ++ [x]) p := by
 cases p
 ·obtain ⟨h1, rfl⟩ := h.2 rfl
  have hx : ¬ y < x := by rcases hx with h | h; cases h; exact h
  refine ⟨(fun h => by cases h), fun _ => ⟨fun b hb => ?_, rfl⟩⟩
  rcases List.mem_append.1 hb with hb | hb
  ·exact h1 b hb
  ·rw [List.mem_singleton.1 hb]; exact hx
 ·obtain ⟨⟨b, hb, hy⟩, rfl⟩ := h.1 rfl
  exact ⟨fun _ => ⟨⟨b, by simp [hb], hy⟩, by rw [putA_snoc_yes ⟨b, hb, hy⟩]⟩, fun h => by cases h⟩
theorem domsOf_snoc1 (ds ms : List Int) (x : Int) : domsOf ds (ms ++ [x]) = addD (domsOf ds ms) (domAt ds x) := by
 rw [domsOf, List.map_append, List.foldl_append]
 rfl
theorem span_snoc (ds ms : List Int) (x : Int) : spanN ds (ms ++ [x]) = if domAt ds x ∈ domsOf ds ms then spanN ds ms else spanN ds ms + 1 := by
 unfold spanN
 rw [domsOf_snoc1]
 unfold addD
 by_cases h : domAt ds x ∈ domsOf ds ms <;> simp [h]
theorem span_put (ds ms : List Int) (x : Int) : spanN ds (putA x ms) = spanN ds (ms ++ [x]) := by
 have h1 : spanN ds (putA x ms) ≤ spanN ds (ms ++ [x]) := spanN_mono fun y hy => by rcases mem_putA.1 hy with h | h <;> simp [h]
 have h2 : spanN ds (ms ++ [x]) ≤ spanN ds (putA x ms) := spanN_mono fun y hy => mem_putA.2 (by rcases List.mem_append.1 hy with h | h; exact .inr h; exact .inl (by simpa using h))
 omega
def choStep (ds : List Int) (cop : Int) (acc : List Int) (x : Int) : List Int := if (acc.length : Int) < cop ∧ domAt ds x ∉ domsOf ds acc then putA x acc else acc
def ChoInv (ds : List Int) (cop : Int) (set acc : List Int) : Prop := acc.Pairwise (· < ·) ∧ (∀ x ∈ acc, x ∈ set) ∧ spanN ds acc = acc.length ∧ (acc.length : Int) ≤ cop
theorem ChoInv.nil {ds set : List Int} {cop : Int} (h : 0 ≤ cop) : ChoInv ds cop set [] := ⟨List.Pairwise.nil, (fun x h => by cases h), rfl, by simpa using h⟩
theorem not_mem_of_dom {ds acc : List Int} {x : Int} (h : domAt ds x ∉ domsOf ds acc) : x ∉ acc := fun hx => h (mem_domsOf.2 ⟨x, hx, rfl⟩)
theorem ChoInv.step {ds set acc : List Int} {cop x : Int} (h : ChoInv ds cop set acc) (hx : x ∈ set) : ChoInv ds cop set (choStep ds cop acc x) := by
 unfold choStep
 split
 ·rename_i hc
  obtain ⟨h1, h2, h3, h4⟩ := h
  refine ⟨putA_asc h1 (not_mem_of_dom hc.2), fun y hy => ?_, ?_, ?_⟩
  ·rcases mem_putA.1 hy with rfl | hy
   ·exact hx
   ·exact h2 y hy
  ·rw [span_put, span_snoc, if_neg hc.2, h3, putA_len]
  ·rw [putA_len]
   have := hc.1
   omega
 ·exact h
theorem OwnN.apart {w : World} {base : Nat} {v : Value} {xs : List Int} (h : OwnN w base v xs) {b : Nat} (hn : v.ownBlock ≠ some b) (o : Nat) (u : Value) : OwnN (w.setCell ⟨b, o, none⟩ u) base v xs := by
 obtain ⟨h0, a, cap, rfl, hcap, h⟩ := h
 refine ⟨h0, a, cap, rfl, hcap, ?_⟩
 rcases h with h | ⟨b', off, rfl, hb', hc⟩
 ·exact .inl h
 ·have hne : b' ≠ b := fun e => hn (by simp [Value.ownBlock, e])
  exact .inr ⟨b', off, rfl, hb', fun i hi => ⟨sO (hc i hi).1 (.inl hne), (World.frozen?_setCell _ _ _ _).trans (hc i hi).2⟩⟩
theorem zerosN_own (n : Nat) (w : World) (h : n ≤ 9223372036854775807) : OwnN (w.alloc (.cells (zerosN n) 3)) w.heap.size (.slice (some ⟨w.heap.size, 0, none⟩) n n) (List.replicate n 0) := by
 refine ⟨by simpa using h, _, n, by simp, by simpa using h, .inr ⟨w.heap.size, 0, rfl, Nat.le_refl _, fun i hi => ⟨?_, by simp⟩⟩⟩
 have hi' : i < n := by simpa using hi
 have := zerosN_at n i hi'
 simp [this]
theorem rowN_len {w : World} {B n c m : Nat} {a : Option Addr} {l : List Value} (h : w.ownsRow B 3 1 (.slice a n c) m l) : n = m := by
 rcases h.2 with ⟨h', h0⟩ | ⟨g', cap', cur, h', _⟩
 ·cases h'; exact h0.symm
 ·cases h'; rfl
theorem rowN_at {w : World} {B g n c : Nat} {l : List Int} (h : w.ownsRow B 3 1 (.slice (some ⟨g, 0, none⟩) n c) l.length (ncells l)) (hl : 0 < l.length) : w.cell? ⟨g, 0, none⟩ = some (.int .i64 l[0]) ∧ w.frozen? ⟨g, 0, none⟩ = false := by
 have hn : n = l.length := by
  rcases h.2 with ⟨h', _⟩ | ⟨g', cap', cur, h', _⟩
  ·cases h'
  ·cases h'; rfl
 subst hn
 have h1 := h.cells rfl 0 (.int .i64 l[0]) (by simp [ncells, hl])
 have e : (⟨g, 0, none⟩ : Addr).add 0 = ⟨g, 0, none⟩ := by simp [Addr.add]
 rw [e] at h1
 exact ⟨h1, h.frozenAt 0⟩
theorem rowN_set0 {w : World} {B g n c : Nat} {l : List Int} (h : w.ownsRow B 3 1 (.slice (some ⟨g, 0, none⟩) n c) l.length (ncells l)) (t : Int) : OwnN (w.setCell ⟨g, 0, none⟩ (.int .i64 t)) B (.slice (some ⟨g, 0, none⟩) n c) (l.set 0 t) := by
 obtain rfl := rowN_len h
 have h1 := (h.stored 0 (.int .i64 t)).1
 refine ownN_of_row (n := l.length) ?_
 have e : ncells (l.set 0 t) = (ncells l).set 0 (.int .i64 t) := by simp [ncells, List.map_set]
 rw [e]
 exact h1
theorem rowN_head {w : World} {B n c : Nat} {a : Option Addr} {l : List Int} (h : w.ownsRow B 3 1 (.slice a n c) l.length (ncells l)) (hl : 0 < l.length) : ∃ g, a = some ⟨g, 0, none⟩ ∧ w.cell? ⟨g, 0, none⟩ = some (.int .i64 l[0]) ∧ w.frozen? ⟨g, 0, none⟩ = false := by
 rcases h.2 with ⟨h', h0⟩ | ⟨g', cap', cur, h', _⟩
 ·omega
 ·cases h'
  exact ⟨g', rfl, rowN_at h hl⟩
set_option maxHeartbeats 2000000 in
set_option maxRecDepth 100000 in
theorem l4Draw_any (bk : Nat) (w : World) (hc : Cur w bk) :
  Calls Tryz.prog 14 #[.pointer (some ⟨bk, 0, none⟩)] w fun r w' => (∃ (sv : Value) (ds : List Int) (cop : Int), r = .returned (.agg #[sv, .int .i64 cop]) ∧ OwnN w' w.heap.size sv ds ∧ ds.length ≤ 9 ∧ (∀ d ∈ ds, -1 ≤ d ∧ d ≤ 8) ∧ 0 ≤ cop ∧ cop ≤ 5) ∧ Cur w' bk ∧ Drawn bk w w' := by
 have hlt := hc.lt
 have ha : ∀ (w : World) o, Below w.heap.size w (w.alloc o) := fun w o => (Below.refl _ _).alloc (Nat.le_refl _) o
 go_enter Tryz.func14, Tryz.ntmps14
 go_wp2_with fail
 have Z0 := TwoZ.fresh w (.slice none 0 0) (.int .i64 0) 26
 have hc0 := hc.below (ha w (.cells #[.slice none 0 0, .int .i64 0] 26))
 have D0 := Drawn.of_below (bk := bk) (ha w (.cells #[.slice none 0 0, .int .i64 0] 26))
 have hsz0 : (w.alloc (.cells #[.slice none 0 0, .int .i64 0] 26)).heap.size = w.heap.size + 1 := by simp
 refine (l4DrawRight_any bk _ hc0).mono ?_
 rintro e w1 ⟨⟨sv, ds, cop, rfl, O1, hds, HA, cl, cu⟩, hc1, hd1⟩
 rw [hsz0] at O1
 have Z1 : TwoZ w1 w.heap.size w.heap.size (.slice none 0 0) (.int .i64 0) := Z0.drawn hd1 (by omega)
 have D1 := D0.trans hd1
 have hz1 : w.heap.size + 1 ≤ w1.heap.size := by have := hd1.size; omega
 obtain ⟨va, vn, vc, rfl⟩ := rowN_slice O1
 have l1 := O1.lt
 clear Z0 D0 hc0 hd1 hc hsz0
 go_wp2_with fail
 have X2 := TwoZ.fresh w1 (.slice va vn vc) (.int .i64 cop) 26
 have Z2 := Z1.kept (ha w1 (.cells #[.slice va vn vc, .int .i64 cop] 26))
 have O2 := O1.alloc (.cells #[.slice va vn vc, .int .i64 cop] 26)
 have hc2 := hc1.below (ha w1 (.cells #[.slice va vn vc, .int .i64 cop] 26))
 have D2 := D1.trans (Drawn.of_below (ha w1 (.cells #[.slice va vn vc, .int .i64 cop] 26)))
 have nX : (Value.slice va vn vc).ownBlock ≠ some w1.heap.size := fun e => by have := (l1 _ e).2; omega
 have nZ : (Value.slice va vn vc).ownBlock ≠ some w.heap.size := fun e => by have := (l1 _ e).1; omega
 generalize hbx : w1.heap.size = bx at *
 generalize w1.alloc (.cells #[.slice va vn vc, .int .i64 cop] 26) = w2 at *
 clear hbx Z1 D1 hc1 O1 l1
 refine (l1Below_any bk 20 (by omega) (by omega) _ hc2).mono ?_
 rintro e w3 ⟨⟨y, hy, rfl⟩, hc3, hd3⟩
 have X3 : TwoZ w3 bx bx (.slice va vn vc) (.int .i64 cop) := X2.drawn hd3 (by omega)
 have Z3 : TwoZ w3 w.heap.size w.heap.size (.slice none 0 0) (.int .i64 0) := Z2.drawn hd3 (by omega)
 have O3 := rowN_drawn O2 hd3 (by omega)
 have D3 := D2.trans hd3
 have hA' : ∀ d ∈ ds, -1 ≤ d ∧ d ≤ 8 := fun d h => by have := HA d h; omega
 have HA' := dH hA'
 clear X2 Z2 D2 hc2 hd3 O2 HA hA'
 have N3 := ownN_of_row O3
 by_cases y0 : ((y : Int) == 0) = true
 ·obtain ⟨-, ⟨k0, k1⟩, f0, f1⟩ := id X3
  obtain ⟨-, ⟨r0, r1⟩, g0, g1⟩ := id Z3
  go_wp2_with fail
  refine (pick_new hc3 [0, 4, 5] _ (by simp) (by simp) _).mono ?_
  rintro e w4 ⟨⟨t, ht, rfl⟩, hc4, hd4⟩
  have X4 : TwoZ w4 bx bx (.slice va vn vc) (.int .i64 cop) := X3.drawn hd4 (by omega)
  have Z4 : TwoZ w4 w.heap.size w.heap.size (.slice none 0 0) (.int .i64 0) := Z3.drawn hd4 (by omega)
  have O4 := ownN_of_row (rowN_drawn O3 hd4 (by omega))
  have D4 := D3.trans hd4
  have htb : 0 ≤ t ∧ t ≤ 5 := by
   simp only [List.mem_cons, List.mem_nil_iff, or_false] at ht
   omega
  have Z5 := Z4.far (b' := bx) (o := 1) (by omega) (.int .i64 t)
  have c5 := hc4.setNew4 (b := bx) (by omega) 1 (.int .i64 t)
  have D5 := D4.setNew (b := bx) (by omega) 1 (.int .i64 t)
  have O5 := OwnN.apart O4 nX 1 (.int .i64 t)
  clear k0 k1 f0 f1 r0 r1 g0 g1 ht hd4 X3 Z3 O3 N3 hc3 D3
  obtain ⟨-, ⟨k0, k1⟩, f0, f1⟩ := id X4
  obtain ⟨-, ⟨r0, r1⟩, g0, g1⟩ := id Z4
  go_wp2_with fail
  clear k0 k1 f0 f1 r0 r1 g0 g1
  generalize w4.setCell ⟨bx, 1, none⟩ (.int .i64 t) = w5 at *
  obtain ⟨-, ⟨e0, e1⟩, -⟩ := (Z5.put0 (.slice va vn vc)).put1 (.int .i64 t)
  have hcE := (c5.setNew4 (b := w.heap.size) hlt 0 (.slice va vn vc)).setNew4 (b := w.heap.size) hlt 1 (.int .i64 t)
  have hdE := (D5.setNew (b := w.heap.size) (Nat.le_refl _) 0 (.slice va vn vc)).setNew (b := w.heap.size) (Nat.le_refl _) 1 (.int .i64 t)
  have hoE := ((O5.far (b := w.heap.size) (o := 0) (by omega) (.slice va vn vc)).far (b := w.heap.size) (o := 1) (by omega) (.int .i64 t)).mono (base' := w.heap.size) (by omega)
  generalize (w5.setCell ⟨w.heap.size, 0, none⟩ (.slice va vn vc)).setCell ⟨w.heap.size, 1, none⟩ (.int .i64 t) = V at *
  refine bodyPost_ret (v := .agg #[.slice va vn vc, .int .i64 t]) (by simp [results, Tryz.results14, go_sem, e0, e1]) rfl ⟨⟨_, _, _, rfl, hoE, by omega, dU HA', htb.1, htb.2⟩, hcE, hdE⟩
 have y0' : ((y : Int) == 0) = false := by simpa using y0
 clear y0
 by_cases y1 : ((y : Int) == 1) = true
 ·obtain ⟨g, rfl, cg, fg⟩ := rowN_head O3 (by omega)
  have hvn : (0 : Int) < (vn : Int) := by have := rowN_len O3; omega
  have hvn' : ¬ ((vn : Int) ≤ 0) := by omega
  have hvn2 : 0 < vn := by omega
  have hvn3 : ¬ vn = 0 := by omega
  have hgb : bx ≠ g := fun e => nX (by simp [Value.ownBlock, e])
  obtain ⟨-, ⟨k0, k1⟩, f0, f1⟩ := id X3
  obtain ⟨-, ⟨r0, r1⟩, g0, g1⟩ := id Z3
  go_wp2
  go_region_held3 (fun W => W.cell? ⟨bx, 0, none⟩ = some (.slice (some ⟨g, 0, none⟩) vn vc)) (first | exact sO (by assumption) (.inl hgb) | go_keep)
   (first
    | (go_at_call 36; first | (refine (pick_new (hc3.below (Below.refl _ _).drew) [-1, 7, 8] _ (by simp) (by simp) _).mono ?_; rintro e w4 ⟨⟨t, ht, rfl⟩, hc4, hd4⟩; have hd4 := (Drawn.refl bk w3).drew.trans hd4; have X4 : TwoZ w4 bx bx (.slice (some ⟨g, 0, none⟩) vn vc) (.int .i64 cop) := X3.drawn hd4 (by omega); have Z4 : TwoZ w4 w.heap.size w.heap.size (.slice none 0 0) (.int .i64 0) := Z3.drawn hd4 (by omega); have O4 := rowN_drawn O3 hd4 (by omega); have D4 := D3.trans hd4; obtain ⟨-, ⟨q0, q1⟩, h0, h1⟩ := id X4; obtain ⟨cg4, fg4⟩ := rowN_at O4 (by omega))))
  have htb : -1 ≤ t ∧ t ≤ 8 := by
   simp only [List.mem_cons, List.mem_nil_iff, or_false] at ht
   omega
  have O5 := rowN_set0 O4 t
  have hA5 : ∀ d ∈ ds.set 0 t, -1 ≤ d ∧ d ≤ 8 := fun d h => by
   rcases List.mem_or_eq_of_mem_set h with h1 | h1
   ·exact dU HA' d h1
   ·rw [h1]; exact htb
  have hl5 : (ds.set 0 t).length ≤ 9 := by rw [List.length_set]; omega
  have hgw : w.heap.size + 1 ≤ g := (O4.lt g rfl).1
  have X5 := X4.far (b' := g) (o := 0) hgb (.int .i64 t)
  have Z5 := Z4.far (b' := g) (o := 0) (by omega) (.int .i64 t)
  have c5 := hc4.setNew4 (b := g) (by omega) 0 (.int .i64 t)
  have D5 := D4.setNew (b := g) (by omega) 0 (.int .i64 t)
  have HA5 := dH hA5
  clear k0 k1 f0 f1 r0 r1 g0 g1 q0 q1 h0 h1 cg fg cg4 fg4 ht hd4 X3 Z3 O3 N3 hc3 D3 X4 Z4 O4 hc4 D4 hA5 hvn hvn' hvn2 hvn3
  generalize w4.setCell ⟨g, 0, none⟩ (.int .i64 t) = w5 at *
  obtain ⟨-, ⟨k0, k1⟩, f0, f1⟩ := id X5
  obtain ⟨-, ⟨r0, r1⟩, g0, g1⟩ := id Z5
  go_wp2_with fail
  clear k0 k1 f0 f1 r0 r1 g0 g1
  obtain ⟨-, ⟨e0, e1⟩, -⟩ := (Z5.put0 (.slice (some ⟨g, 0, none⟩) vn vc)).put1 (.int .i64 cop)
  have hcE := (c5.setNew4 (b := w.heap.size) hlt 0 (.slice (some ⟨g, 0, none⟩) vn vc)).setNew4 (b := w.heap.size) hlt 1 (.int .i64 cop)
  have hdE := (D5.setNew (b := w.heap.size) (Nat.le_refl _) 0 (.slice (some ⟨g, 0, none⟩) vn vc)).setNew (b := w.heap.size) (Nat.le_refl _) 1 (.int .i64 cop)
  have hoE := ((O5.far (b := w.heap.size) (o := 0) (by omega) (.slice (some ⟨g, 0, none⟩) vn vc)).far (b := w.heap.size) (o := 1) (by omega) (.int .i64 cop)).mono (base' := w.heap.size) (by omega)
  generalize (w5.setCell ⟨w.heap.size, 0, none⟩ (.slice (some ⟨g, 0, none⟩) vn vc)).setCell ⟨w.heap.size, 1, none⟩ (.int .i64 cop) = V at *
  refine bodyPost_ret (v := .agg #[.slice (some ⟨g, 0, none⟩) vn vc, .int .i64 cop]) (by simp [results, Tryz.results14, go_sem, e0, e1]) rfl ⟨⟨_, _, _, rfl, hoE, hl5, dU HA5, by omega, by omega⟩, hcE, hdE⟩
 have y1' : ((y : Int) == 1) = false := by simpa using y1
 clear y1
 by_cases y2 : ((y : Int) == 2) = true
 ·obtain ⟨-, ⟨k0, k1⟩, f0, f1⟩ := id X3
  obtain ⟨-, ⟨r0, r1⟩, g0, g1⟩ := id Z3
  go_wp2_with fail
  refine (pick_new hc3 [0, 8, 9] _ (by simp) (by simp) _).mono ?_
  rintro e w4 ⟨⟨t, ht, rfl⟩, hc4, hd4⟩
  have X4 : TwoZ w4 bx bx (.slice va vn vc) (.int .i64 cop) := X3.drawn hd4 (by omega)
  have Z4 : TwoZ w4 w.heap.size w.heap.size (.slice none 0 0) (.int .i64 0) := Z3.drawn hd4 (by omega)
  have D4 := D3.trans hd4
  obtain ⟨n, rfl⟩ : ∃ n : Nat, t = n := by
   simp only [List.mem_cons, List.mem_nil_iff, or_false] at ht
   exact ⟨t.toNat, by omega⟩
  have hn9 : n ≤ 9 := by
   simp only [List.mem_cons, List.mem_nil_iff, or_false] at ht
   omega
  have MK := makeN n (by omega) w4
  have hs4 := D4.size
  have hx4 := dCell_lt X4.2.1.1
  have ba := ha w4 (.cells (zerosN n) 3)
  have OZ : OwnN (w4.alloc (.cells (zerosN n) 3)) w4.heap.size (.slice (some ⟨w4.heap.size, 0, none⟩) n n) (List.replicate n 0) := zerosN_own n w4 (by omega)
  have X5 := X4.kept ba
  have Z5 := Z4.kept ba
  have c5 := hc4.below ba
  have D5 := D4.trans (Drawn.of_below ba)
  clear k0 k1 f0 f1 r0 r1 g0 g1 ht hd4 X3 Z3 O3 N3 hc3 D3 X4 Z4 hc4 D4 ba
  generalize w4.alloc (.cells (zerosN n) 3) = w5 at *
  obtain ⟨-, ⟨k0, k1⟩, f0, f1⟩ := id X5
  obtain ⟨-, ⟨r0, r1⟩, g0, g1⟩ := id Z5
  go_wp2_with fail
  have Z6 := Z5.far (b' := bx) (o := 0) (by omega) (.slice (some ⟨w4.heap.size, 0, none⟩) n n)
  have c6 := c5.setNew4 (b := bx) (by omega) 0 (.slice (some ⟨w4.heap.size, 0, none⟩) n n)
  have D6 := D5.setNew (b := bx) (by omega) 0 (.slice (some ⟨w4.heap.size, 0, none⟩) n n)
  have O6 := OZ.far (b := bx) (o := 0) (by omega) (.slice (some ⟨w4.heap.size, 0, none⟩) n n)
  clear k0 k1 f0 f1 r0 r1 g0 g1
  generalize w5.setCell ⟨bx, 0, none⟩ (.slice (some ⟨w4.heap.size, 0, none⟩) n n) = w6 at *
  obtain ⟨-, ⟨e0, e1⟩, -⟩ := (Z6.put0 (.slice (some ⟨w4.heap.size, 0, none⟩) n n)).put1 (.int .i64 cop)
  have hcE := (c6.setNew4 (b := w.heap.size) hlt 0 (.slice (some ⟨w4.heap.size, 0, none⟩) n n)).setNew4 (b := w.heap.size) hlt 1 (.int .i64 cop)
  have hdE := (D6.setNew (b := w.heap.size) (Nat.le_refl _) 0 (.slice (some ⟨w4.heap.size, 0, none⟩) n n)).setNew (b := w.heap.size) (Nat.le_refl _) 1 (.int .i64 cop)
  have hoE := ((O6.far (b := w.heap.size) (o := 0) (by omega) (.slice (some ⟨w4.heap.size, 0, none⟩) n n)).far (b := w.heap.size) (o := 1) (by omega) (.int .i64 cop)).mono (base' := w.heap.size) (by omega)
  generalize (w6.setCell ⟨w.heap.size, 0, none⟩ (.slice (some ⟨w4.heap.size, 0, none⟩) n n)).setCell ⟨w.heap.size, 1, none⟩ (.int .i64 cop) = V at *
  refine bodyPost_ret (v := .agg #[.slice (some ⟨w4.heap.size, 0, none⟩) n n, .int .i64 cop]) (by simp [results, Tryz.results14, go_sem, e0, e1]) rfl ⟨⟨_, _, _, rfl, hoE, by simp; omega, (fun d h => by rw [List.eq_of_mem_replicate h]; omega), by omega, by omega⟩, hcE, hdE⟩
 have y2' : ((y : Int) == 2) = false := by simpa using y2
 obtain ⟨-, ⟨k0, k1⟩, f0, f1⟩ := id X3
 obtain ⟨-, ⟨r0, r1⟩, g0, g1⟩ := id Z3
 go_wp2_with fail
 clear k0 k1 f0 f1 r0 r1 g0 g1
 obtain ⟨-, ⟨e0, e1⟩, -⟩ := (Z3.put0 (.slice va vn vc)).put1 (.int .i64 cop)
 have hcE := (hc3.setNew4 (b := w.heap.size) hlt 0 (.slice va vn vc)).setNew4 (b := w.heap.size) hlt 1 (.int .i64 cop)
 have hdE := (D3.setNew (b := w.heap.size) (Nat.le_refl _) 0 (.slice va vn vc)).setNew (b := w.heap.size) (Nat.le_refl _) 1 (.int .i64 cop)
 have hoE := ((N3.far (b := w.heap.size) (o := 0) (by omega) (.slice va vn vc)).far (b := w.heap.size) (o := 1) (by omega) (.int .i64 cop)).mono (base' := w.heap.size) (by omega)
 generalize (w3.setCell ⟨w.heap.size, 0, none⟩ (.slice va vn vc)).setCell ⟨w.heap.size, 1, none⟩ (.int .i64 cop) = V at *
 refine bodyPost_ret (v := .agg #[.slice va vn vc, .int .i64 cop]) (by simp [results, Tryz.results14, go_sem, e0, e1]) rfl ⟨⟨_, _, _, rfl, hoE, by omega, dU HA', by omega, by omega⟩, hcE, hdE⟩
theorem rowN_mono {w : World} {B B' n : Nat} {v : Value} {l : List Value} (h : w.ownsRow B 3 1 v n l) (hB : B' ≤ B) : w.ownsRow B' 3 1 v n l := by
 refine ⟨h.1, ?_⟩
 rcases h.2 with h0 | ⟨g, cap, cur, h1, h2, h3⟩
 ·exact .inl h0
 ·exact .inr ⟨g, cap, cur, h1, by omega, h3⟩
end Go.Proofs.YtodfgehicpejgaaGreatDoor
