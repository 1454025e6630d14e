/- Several texts in one: SetP, ImpDa, ImpDb, ImpDd, ImpDe, ImpDh. -/
import Derived.Test.YthndkkjgjhgdnaaGreatDoorGaC
import Derived.Test.YthndkkjgjhgdnaaGreatDoorGk75
import Derived.Maps.RangeWalk
import Derived.Carry
import Derived.Deep.RegionHeld3
namespace Go.Proofs.YthndkkjgjhgdnaaGreatDoor
open Go.ChangeShapes Go.WideShapes Go.ChangeAt Go.RowKit
set_option linter.unusedVariables false

theorem keyI : Go.Maps.Keyed Tryz.prog 3 := Go.Maps.int_keyed Tryz.underlying3
theorem zeroU (w : World) : (zeroValue 170).run Tryz.prog w = .ok (.agg #[]) w := by kernel_rfl
theorem wf_int {z : Int} (h : -9223372036854775808 ≤ z ∧ z ≤ 9223372036854775807) : (Lit.int .i64 z).wf = true := WalkArith.wf_i64 (by omega)
theorem int_wf {z : Int} (h : (Lit.int .i64 z).wf = true) : -9223372036854775808 ≤ z ∧ z ≤ 9223372036854775807 := by
  simp only [Lit.wf, Bool.and_eq_true, decide_eq_true_eq] at h
  exact h
theorem keyOf_z {z : Int} (h : -9223372036854775808 ≤ z ∧ z ≤ 9223372036854775807) : keyOf Tryz.prog 3 (.int .i64 z) = some (.int .i64 z) := Go.Maps.keyOf_int_mk Tryz.underlying3 (wf_int h)
theorem grownBy_of_below {w w' : World} (h : Below w.heap.size w w') : w.grownBy w' none := ⟨h.os, h.tape, h.output, h.size, fun k hk _ => h.block k hk⟩
theorem own_tight {P : Program} {k : TypeId} {R : Value → Option (DataW Unit × List MemPlace)} {w : World} {b n : Nat} {D : DataW Unit} (h : w.ownsMap P k R b n D) : w.ownsMap P k R b (Maps.size D) D := by
  obtain ⟨es, clock, hb, F, hs, rfl⟩ := h
  exact ⟨es, clock, hb, F, by simp [Maps.size, length_sorted], rfl⟩

/-- The map in block b holds just the numbers xs, each once. -/
def SetN (w : World) (b : Nat) (xs : List Int) : Prop :=
  xs.Nodup ∧ allInt xs ∧ ∃ D : DataW Unit, w.ownsMap Tryz.prog 3 (unitElem (H := Unit)) b xs.length D ∧ Maps.size D = xs.length ∧ ∀ z, Maps.has D (.int .i64 z) = decide (z ∈ xs)
theorem SetN.lt {w : World} {b : Nat} {xs : List Int} (h : SetN w b xs) : b < w.heap.size := by
  obtain ⟨-, -, D, h, -⟩ := h
  exact h.lt
theorem SetN.kept {w w' : World} {b : Nat} {xs : List Int} {row : Option Nat} (h : SetN w b xs) (hg : w.grownBy w' row) (hne : some b ≠ row) : SetN w' b xs := by
  obtain ⟨h1, h2, D, h3, h4⟩ := h
  exact ⟨h1, h2, D, h3.kept hg hne, h4⟩
theorem SetN.below {w w' : World} {b : Nat} {xs : List Int} (h : SetN w b xs) (hb : Below w.heap.size w w') : SetN w' b xs := h.kept (grownBy_of_below hb) (by simp)
theorem SetN.alloc {w : World} {b : Nat} {xs : List Int} (h : SetN w b xs) (o : Obj) : SetN (w.alloc o) b xs := h.kept (World.grownBy_alloc w o none) (by simp)
theorem SetN.made (w : World) : SetN (w.alloc (.map #[] 0)) w.heap.size [] := ⟨List.nodup_nil, (fun x h => by cases h), .map [], World.ownsMap_made _ _ _ _, rfl, fun z => by simp [Maps.has]⟩
theorem SetN.perm {w : World} {b : Nat} {xs ys : List Int} (h : SetN w b xs) (hp : xs.Perm ys) : SetN w b ys := by
  obtain ⟨h1, h2, D, h3, h4, h5⟩ := h
  refine ⟨hp.nodup_iff.1 h1, fun x hx => h2 x (hp.mem_iff.2 hx), D, by rw [← hp.length_eq]; exact h3, by rw [← hp.length_eq]; exact h4, fun z => by rw [h5 z]; simp [hp.mem_iff]⟩
/-- A range over the set xs in block b, by the iterator in block r, that has met the numbers ys. -/
def RangeN (w : World) (b r : Nat) (xs ys : List Int) : Prop :=
  xs.Nodup ∧ allInt xs ∧ ys.Nodup ∧ (∀ y ∈ ys, y ∈ xs) ∧ ∃ (D : DataW Unit) (left : Lit → Bool) (cnt : Nat), w.ranges Tryz.prog 3 (unitElem (H := Unit)) b r xs.length D left cnt ∧ Maps.size D = xs.length ∧ (∀ z, Maps.has D (.int .i64 z) = decide (z ∈ xs)) ∧ ∀ z, left (.int .i64 z) = (decide (z ∈ xs) && !decide (z ∈ ys))
theorem RangeN.set {w : World} {b r : Nat} {xs ys : List Int} (h : RangeN w b r xs ys) : SetN w b xs := by
  obtain ⟨h1, h2, -, -, D, left, cnt, h3, h4, h5, -⟩ := h
  exact ⟨h1, h2, D, h3.owns, h4, h5⟩
theorem RangeN.lt {w : World} {b r : Nat} {xs ys : List Int} (h : RangeN w b r xs ys) : r < w.heap.size := by
  obtain ⟨-, -, -, -, D, left, cnt, h3, -⟩ := h
  exact h3.lt
theorem RangeN.kept {w w' : World} {b r : Nat} {xs ys : List Int} {row : Option Nat} (h : RangeN w b r xs ys) (hg : w.grownBy w' row) (hb : some b ≠ row) (hr : some r ≠ row) : RangeN w' b r xs ys := by
  obtain ⟨h1, h2, h3, h4, D, left, cnt, h5, h6⟩ := h
  exact ⟨h1, h2, h3, h4, D, left, cnt, h5.kept hg hb hr, h6⟩
theorem RangeN.alloc {w : World} {b r : Nat} {xs ys : List Int} (h : RangeN w b r xs ys) (o : Obj) : RangeN (w.alloc o) b r xs ys := h.kept (World.grownBy_alloc w o none) (by simp) (by simp)
theorem RangeN.below {w w' : World} {b r : Nat} {xs ys : List Int} (h : RangeN w b r xs ys) (hb : Below w.heap.size w w') : RangeN w' b r xs ys := h.kept (grownBy_of_below hb) (by simp) (by simp)
/-- Two worlds in which the range stands alike. -/
theorem RangeN.left_kept {w w' : World} {b r : Nat} {xs ys : List Int} {row : Option Nat} (h : RangeN w b r xs ys) (hg : w.grownBy w' row) (hb : some b ≠ row) (hr : some r ≠ row) : w'.rangeLeft b r = w.rangeLeft b r := by
  obtain ⟨h1, h2, h3, h4, D, left, cnt, h5, h6⟩ := h
  rw [(h5.kept hg hb hr).left_eq, h5.left_eq]
theorem RangeN.left_below {w w' : World} {b r : Nat} {xs ys : List Int} (h : RangeN w b r xs ys) (hb : Below w.heap.size w w') : w'.rangeLeft b r = w.rangeLeft b r := h.left_kept (grownBy_of_below hb) (by simp) (by simp)

section
variable (w : World) {ops : Array Oper} {rest : List Oper} {o : Oper} {a : Act} {Q : Exit → Act → World → Prop}
/-- A number is put into a set. -/
theorem wp_setPut (hg : o.guard = none) (m x v : Operand) (hop : o.op = Op.mapUpdate 213 m x v) (b : Nat) (xs : List Int) (z : Int) (hm : a.eval m = .map (some b)) (h : SetN w b xs)
    (hx : a.eval x = .int .i64 z) (hz : -9223372036854775808 ≤ z ∧ z ≤ 9223372036854775807) (hv : a.eval v = .agg #[]) (hl : xs.length ≤ 1099511627776)
    (hK : ∀ w', SetN w' b (addD xs z) → w.grownBy w' (some b) → wpList Tryz.prog ops Q rest (a.put o.dst undef) w') : wpList Tryz.prog ops Q (o :: rest) a w := by
  obtain ⟨h1, h2, D, h3, h4, h5⟩ := h
  refine wpList_mapUpdate_own _ hg m x v 213 hop 3 170 keyI Tryz.underlying213 (unitElem (H := Unit)) b xs.length D hm h3 (by unfold maxLen; omega) _ _ (.int .i64 z) hx hv (keyOf_z hz) (.agg []) [] unitElem_mk ?_
  intro w' o1 g1
  refine hK w' ⟨nodup_addD h1, fun y hy => ?_, D.put (.int .i64 z) (.agg []), ?_, ?_, ?_⟩ g1
  · unfold addD at hy
    split at hy
    · exact h2 y hy
    · rcases List.mem_append.1 hy with hy | hy
      · exact h2 y hy
      · obtain rfl : y = z := by simpa using hy
        exact hz
  · have e : Maps.size (D.put (.int .i64 z) (.agg [])) = (addD xs z).length := by
      rw [Maps.size_put (h3.tidy keyI), h5 z, h4]
      unfold addD
      by_cases hzx : z ∈ xs <;> simp [hzx]
    rw [← e]
    exact own_tight o1
  · rw [Maps.size_put (h3.tidy keyI), h5 z, h4]
    unfold addD
    by_cases hzx : z ∈ xs <;> simp [hzx]
  · intro y
    by_cases hy : y = z
    · subst hy
      rw [Maps.has_put_same h3.isMap (keyI.key (keyOf_z hz))]
      unfold addD
      by_cases hzx : y ∈ xs <;> simp [hzx]
    · rw [Maps.has_put_other (by simpa using hy), h5 y]
      unfold addD
      by_cases hzx : z ∈ xs <;> simp [hzx, hy]
/-- Whether a number is in a set. -/
theorem wp_setHas (hg : o.guard = none) (m x : Operand) (hop : o.op = Op.lookup 213 m x true) (b : Nat) (xs : List Int) (z : Int) (hm : a.eval m = .map (some b)) (h : SetN w b xs)
    (hx : a.eval x = .int .i64 z) (hz : -9223372036854775808 ≤ z ∧ z ≤ 9223372036854775807)
    (hK : wpList Tryz.prog ops Q rest (a.put o.dst (.tuple #[.agg #[], .bool (decide (z ∈ xs))])) w) : wpList Tryz.prog ops Q (o :: rest) a w := by
  obtain ⟨h1, h2, D, h3, h4, h5⟩ := h
  refine wpList_lookup_own_unit _ hg m x 213 hop 3 170 keyI Tryz.underlying213 (zeroU _) b xs.length D hm h3 _ (.int .i64 z) hx (keyOf_z hz) ?_
  rw [h5 z]
  exact hK
/-- How many numbers a set has. -/
theorem wp_setLen (hg : o.guard = none) (m : Operand) (hop : o.op = Op.call { callee := Callee.builtin Builtin.len, args := #[m], argTypes := #[213] }) (b : Nat) (xs : List Int) (hm : a.eval m = .map (some b)) (h : SetN w b xs)
    (hK : wpList Tryz.prog ops Q rest (a.put o.dst (.int .i64 (xs.length : Int))) w) : wpList Tryz.prog ops Q (o :: rest) a w := by
  obtain ⟨h1, h2, D, h3, h4, h5⟩ := h
  refine wpList_len_own _ hg m 213 hop 3 170 Tryz.underlying213 (unitElem (H := Unit)) b xs.length D hm h3 ?_
  rw [h4]
  exact hK
/-- A range begins. -/
theorem wp_setRange (hg : o.guard = none) (m : Operand) (hop : o.op = Op.range 213 m) (b : Nat) (xs : List Int) (hm : a.eval m = .map (some b)) (h : SetN w b xs)
    (hK : ∀ w', RangeN w' b w.heap.size xs [] → w.grownBy w' none → w'.heap.size = w.heap.size + 1 → wpList Tryz.prog ops Q rest (a.put o.dst (.pointer (some ⟨w.heap.size, 0, none⟩))) w') : wpList Tryz.prog ops Q (o :: rest) a w := by
  obtain ⟨h1, h2, D, h3, h4, h5⟩ := h
  refine wpList_range_own _ hg m 213 hop 3 170 keyI Tryz.underlying213 (unitElem (H := Unit)) b xs.length D hm h3 ?_
  intro w' r1 g1 s1
  exact hK w' ⟨h1, h2, List.nodup_nil, (fun y h => by cases h), D, _, _, r1, h4, h5, fun z => by rw [h5 z]; simp⟩ g1 s1
/-- A range goes on. -/
theorem wp_setNext (hg : o.guard = none) (it : Operand) (hop : o.op = Op.next it false) (b r : Nat) (xs ys : List Int) (hit : a.eval it = .pointer (some ⟨r, 0, none⟩)) (h : RangeN w b r xs ys)
    (hDone : ys.Perm xs → wpList Tryz.prog ops Q rest (a.put o.dst (.tuple #[.bool false])) w)
    (hMore : ∀ (x : Int) (w' : World), x ∈ xs → x ∉ ys → RangeN w' b r xs (ys ++ [x]) → w'.rangeLeft b r < w.rangeLeft b r → w.grownBy w' (some r) →
      (Instr.entry (.pointer (some ⟨r, 0, none⟩))).run Tryz.prog w' = .ok (.tuple #[.int .i64 x, .agg #[]]) w' → wpList Tryz.prog ops Q rest (a.put o.dst (.tuple #[.bool true, .int .i64 x, .agg #[]])) w') : wpList Tryz.prog ops Q (o :: rest) a w := by
  obtain ⟨h1, h2, h3, h4, D, left, cnt, h5, h6, h7, h8⟩ := h
  refine wpList_next_ranges (α := Int) (β := Unit) _ hg it hop 3 keyI (unitElem (H := Unit)) (Value.int .i64) (fun _ => .agg #[]) (fun key kl hk => by obtain ⟨x, rfl, _⟩ := Maps.keyOf_int_inv Tryz.underlying3 hk; exact ⟨x, rfl⟩) (fun v y hv => ⟨(), (unitElem_inv hv).1⟩) b r xs.length D left cnt hit h5 ?_ ?_
  · intro hc hl0
    refine hDone ((List.perm_ext_iff_of_nodup h3 h1).2 fun z => ⟨fun hz => h4 z hz, fun hz => ?_⟩)
    have := h8 z
    rw [hl0] at this
    simp [hz] at this
    exact this
  · intro x c kl y w' cnt' hkey hlk hv hat hrg hlt hgr hsz hen
    obtain ⟨x', ex, rfl, hwx⟩ := Maps.keyOf_int_inv Tryz.underlying3 hkey
    cases ex
    have hx := h8 x
    rw [hlk] at hx
    simp only [Bool.true_eq, Bool.and_eq_true, decide_eq_true_eq, Bool.not_eq_true', decide_eq_false_iff_not] at hx
    refine hMore x w' hx.1 hx.2 ⟨h1, h2, ?_, ?_, D, _, cnt', hrg, h6, h7, fun z => ?_⟩ (by rw [hrg.left_eq, h5.left_eq]; exact hlt) hgr hen
    · refine List.nodup_append.2 ⟨h3, by simp, fun p hp q hq => ?_⟩
      obtain rfl : q = x := by simpa using hq
      intro e
      exact hx.2 (e ▸ hp)
    · intro z hz
      rcases List.mem_append.1 hz with hz | hz
      · exact h4 z hz
      · obtain rfl : z = x := by simpa using hz
        exact hx.1
    · rw [h8 z]
      by_cases hzx : z = x
      · subst hzx
        have : (Lit.int .i64 z).sameKey (.int .i64 z) = true := WideAt.sameKey_self (keyI.key hkey)
        simp [this]
      · have : (Lit.int .i64 z).sameKey (.int .i64 x) = false := Maps.sameKey_ne (by simpa using hzx)
        simp [this, hzx]
end
end Go.Proofs.YthndkkjgjhgdnaaGreatDoor
namespace Go.Proofs.YthndkkjgjhgdnaaGreatDoor
open Go.ChangeShapes Go.WideShapes Go.ChangeAt Go.RowKit
set_option linter.unusedVariables false

/-- Each number of a list once. -/
def dedL (xs : List Int) : List Int := xs.foldl addD []
theorem dedL_take (xs : List Int) (k : Nat) (h : k < xs.length) : dedL (xs.take (k + 1)) = addD (dedL (xs.take k)) xs[k] := by
  rw [dedL, List.take_succ_eq_append_getElem h, List.foldl_append]
  rfl
theorem dedL_len (xs : List Int) (k : Nat) (h : k ≤ xs.length) : (dedL (xs.take k)).length ≤ k := by
  induction k with
  | zero => simp [dedL]
  | succ n ih =>
    rw [dedL_take xs n (by omega)]
    have := addD_len (dedL (xs.take n)) xs[n]
    have := ih (by omega)
    omega
theorem foldl_addD_new (xs : List Int) : ∀ acc : List Int, xs.Nodup → (∀ x ∈ xs, x ∉ acc) → xs.foldl addD acc = acc ++ xs := by
  induction xs with
  | nil => intro acc _ _; simp
  | cons a l ih =>
    intro acc hn hd
    have ha : addD acc a = acc ++ [a] := by
      unfold addD
      rw [if_neg (by simpa using hd a (by simp))]
    rw [List.foldl_cons, ha, ih _ (List.nodup_cons.1 hn).2 (fun x hx => by
      have h1 := hd x (by simp [hx])
      have h2 : x ≠ a := fun e => (List.nodup_cons.1 hn).1 (e ▸ hx)
      simp [h1, h2])]
    simp
theorem dedL_nodup {xs : List Int} (h : xs.Nodup) : dedL xs = xs := by
  have := foldl_addD_new xs [] h (fun x _ => by simp)
  simpa [dedL] using this
set_option maxHeartbeats 2000000 in
theorem setOf_any (v : Value) (xs : List Int) (w : World) (hv : Ns w v xs) (ha : allInt xs) (hl : xs.length ≤ 1048576) :
    Calls Tryz.prog 145 #[v] w fun e w' => e = .returned (.map (some w.heap.size)) ∧ SetN w' w.heap.size (dedL xs) ∧ Below w.heap.size w w' := by
  obtain ⟨h0, a, cap, rfl, -, hv⟩ := hv
  have HV := dHide hv
  have HA := dHide ha
  clear hv ha
  have hmm := @run_makeMap Tryz.prog
  go_enter Tryz.func145, Tryz.ntmps145
  go_wp2
  go_loopw [9] (fun x wr => ∃ k : Nat, x = .int .i64 (k : Int) ∧ k ≤ xs.length ∧ SetN wr w.heap.size (dedL (xs.take k)) ∧ Below w.heap.size w wr) (fun x _ => xs.length - (intOf x).toNat)
  case atStart => exact ⟨0, rfl, Nat.zero_le _, SetN.made w, (Below.refl _ _).alloc (Nat.le_refl _) _⟩
  case round =>
    obtain ⟨k, rfl, hk, hset, hb⟩ := hrel
    by_cases hlt : (k : Int) < (xs.length : Int)
    · obtain ⟨b, off, rfl, hc⟩ : ∃ b off, a = some ⟨b, off, none⟩ ∧ ∀ i (h : i < xs.length), w.cell? ⟨b, off + i, none⟩ = some (.int .i64 xs[i]) := orN_of_lt (dUnhide HV) (k := k) (by omega)
      have hkl : k < xs.length := by omega
      have c1 : wr.cell? ⟨b, off + k, none⟩ = some (.int .i64 xs[k]) := (hb.cell (p := ⟨b, off + k, none⟩) (dCell_lt (hc k hkl))).trans (hc k hkl)
      have hz := dHide (dUnhide HA xs[k] (List.getElem_mem hkl))
      have e1 := dHide (dedL_take xs k hkl)
      have hlen := dedL_len xs k hk
      generalize xs[k] = x at *
      generalize dedL (xs.take k) = L at *
      clear hc HV HA
      go_wp2_with (first
        | (at_mapUpdate; refine wp_setPut _ rfl _ _ _ rfl w.heap.size L x rfl hset rfl (dUnhide hz) rfl (by omega) ?_; intro w1 hset1 hg1)
        | go_in)
      have hb1 : Below w.heap.size w w1 := hb.grown hg1 hb.size (fun j hj => by cases hj; exact Nat.le_refl _)
      clear hset hg1 c1 hb
      go_wp2
      go_roundw
      case rel => exact ⟨k + 1, by go_num, by omega, by rw [dUnhide e1]; exact hset1, hb1⟩
      case measure => simp [intOf]; omega
    · have e1 : xs.take k = xs := List.take_of_length_le (by omega)
      rw [e1] at hset
      clear e1 HV HA
      go_wp2
      go_ret
      exact ⟨rfl, hset, hb⟩
end Go.Proofs.YthndkkjgjhgdnaaGreatDoor
namespace Go.Proofs.YthndkkjgjhgdnaaGreatDoor
open Go.ChangeShapes Go.WideShapes Go.ChangeAt Go.RowKit
set_option linter.unusedVariables false

theorem lessL_snoc_yes {ms ys : List Int} {x : Int} (h : x ∈ ys) : lessL (ms ++ [x]) ys = lessL ms ys := by simp [lessL, List.filter_append, h]
theorem lessL_snoc_no {ms ys : List Int} {x : Int} (h : ¬ x ∈ ys) (hm : ¬ x ∈ ms) : lessL (ms ++ [x]) ys = addD (lessL ms ys) x := by
  have hn : ¬ x ∈ lessL ms ys := fun hx => hm (List.mem_filter.1 hx).1
  unfold addD
  rw [if_neg (by simpa using hn)]
  simp [lessL, List.filter_append, h]
theorem domsOf_snoc (ds ms : List Int) (x : Int) : domsOf ds (ms ++ [x]) = addD (domsOf ds ms) (domAt ds x) := by
  rw [domsOf, List.map_append, List.foldl_append]
  rfl
theorem domsOf_perm {ds ms xs : List Int} (h : ms.Perm xs) : (domsOf ds ms).Perm (domsOf ds xs) :=
  (List.perm_ext_iff_of_nodup (domsOf_nodup _ _) (domsOf_nodup _ _)).2 fun d => by simp only [mem_domsOf, h.mem_iff]
theorem domsOf_le (ds xs : List Int) : (domsOf ds xs).length ≤ xs.length := by
  have := domsOf_len ds xs xs.length (Nat.le_refl _)
  rwa [List.take_length] at this
set_option maxHeartbeats 2000000 in
theorem domainsOf_any (sv : Value) (b : Nat) (ds xs : List Int) (cop : Int) (w : World) (hd : Ns w sv ds) (hx : SetN w b xs) (hn : nodesP ds cop xs) (hl : xs.length ≤ 1048576) :
    Calls Tryz.prog 144 #[.agg #[sv, .int .i64 cop], .map (some b)] w fun e w' => e = .returned (.map (some (w.heap.size + 1))) ∧ SetN w' (w.heap.size + 1) (domsOf ds xs) ∧ Below w.heap.size w w' := by
  obtain ⟨h0, a, cap, rfl, -, hd⟩ := hd
  have HD := dHide hd
  have HN := dHide hn
  have hbl := dHide hx.lt
  have hh := dHide ((hx.alloc (.cells #[.slice a ds.length cap, .int .i64 cop] 26)).alloc (.map #[] 0))
  have hmade := dHide (SetN.made (w.alloc (.cells #[.slice a ds.length cap, .int .i64 cop] 26)))
  have hmm := @run_makeMap Tryz.prog
  have e1 : ((w.alloc (.cells #[.slice a ds.length cap, .int .i64 cop] 26)).alloc (.map #[] 0)).heap.size = w.heap.size + 2 := by simp
  have e2 : (w.alloc (.cells #[.slice a ds.length cap, .int .i64 cop] 26)).heap.size = w.heap.size + 1 := by simp
  have E1 := dHide e1
  have E2 := dHide e2
  have hb00 : Below w.heap.size w ((w.alloc (.cells #[.slice a ds.length cap, .int .i64 cop] 26)).alloc (.map #[] 0)) := ((Below.refl _ _).alloc (Nat.le_refl _) _).alloc (by simp) _
  have HB0 := dHide hb00
  have hcc : ((w.alloc (.cells #[.slice a ds.length cap, .int .i64 cop] 26)).alloc (.map #[] 0)).cell? ⟨w.heap.size, 0, none⟩ = some (.slice a ds.length cap) := by simp
  have HCC := dHide hcc
  clear hx e1 e2 hd hn hb00 hcc
  go_enter Tryz.func144, Tryz.ntmps144
  go_wp2_with (first
    | (at_range; refine wp_setRange _ rfl _ rfl b xs rfl (dUnhide hh) ?_; intro w0 hrg0 hg0 hs0)
    | go_in)
  go_frame
  rw [dUnhide E1] at hrg0 hs0 ⊢
  have hb0 : Below w.heap.size w w0 := (dUnhide HB0).grown hg0 (by simp; omega) (fun j hj => by cases hj)
  have hset0 := (dUnhide hmade).kept hg0 (by simp)
  rw [dUnhide E2] at hset0
  have hc0 : w0.cell? ⟨w.heap.size, 0, none⟩ = some (.slice a ds.length cap) := (World.cell?_of_block (w' := w0) (a := ⟨w.heap.size, 0, none⟩) (hg0.block w.heap.size (by simp; omega) (by simp))).trans (dUnhide HCC)
  clear hh hmade HB0 HCC
  go_loopw [6] (fun _ wr => ∃ ms, RangeN wr b (w.heap.size + 2) xs ms ∧ SetN wr (w.heap.size + 1) (domsOf ds ms) ∧ wr.cell? ⟨w.heap.size, 0, none⟩ = some (.slice a ds.length cap) ∧ Below w.heap.size w wr) (fun _ wr => wr.rangeLeft b (w.heap.size + 2))
  case atStart => exact ⟨[], hrg0, hset0, hc0, hb0⟩
  case round =>
    obtain ⟨ms, hrg, hset, hbx, hb⟩ := hrel
    clear hrg0 hg0 hs0 hb0 hset0 hc0
    have hml := dHide hrg
    go_wp2_with (first
      | (at_next; refine wp_setNext _ rfl _ rfl b (w.heap.size + 2) xs ms rfl hrg ?_ ?_)
      | go_in)
    · intro hp
      have hset' := dHide (hset.perm (domsOf_perm hp))
      clear hp hset hml
      go_wp2
      go_ret
      exact ⟨rfl, dUnhide hset', hb⟩
    · intro x w1 hx hxm hrg1 hlt hg1 hen
      have hb1 : Below w.heap.size w w1 := hb.grown hg1 hb.size (fun j hj => by cases hj; omega)
      have hset1 := hset.kept hg1 (by simp)
      have hbx1 : w1.cell? ⟨w.heap.size, 0, none⟩ = some (.slice a ds.length cap) := (World.cell?_of_block (w' := w1) (a := ⟨w.heap.size, 0, none⟩) (hg1.block w.heap.size (dCell_lt hbx) (by simp))).trans hbx
      have HL := dHide hlt
      have HR := dHide hrg1
      have hlen := len_le_of_sub (dUnhide hml).2.2.1 xs (dUnhide hml).2.2.2.1
      have hlen2 := domsOf_le ds ms
      have hlen3 : (domsOf ds ms).length ≤ 1048576 := Nat.le_trans hlen2 (Nat.le_trans hlen hl)
      have HS := dHide (domsOf_snoc ds ms x)
      obtain ⟨k, hkl, hk⟩ := List.getElem_of_mem hx
      obtain ⟨i, d, e1, hil, e2, hd8, e3⟩ := domAt_in (dUnhide HN) k hkl
      obtain ⟨b', off, rfl, hc⟩ : ∃ b off, a = some ⟨b, off, none⟩ ∧ ∀ i (h : i < ds.length), w.cell? ⟨b, off + i, none⟩ = some (.int .i64 ds[i]) := orN_of_lt (dUnhide HD) (k := i) hil
      have c2 : w1.cell? ⟨b', off + i, none⟩ = some (.int .i64 (d : Int)) := by rw [← e2]; exact (hb1.cell (p := ⟨b', off + i, none⟩) (dCell_lt (hc i hil))).trans (hc i hil)
      obtain rfl : x = (i : Int) := by rw [← hk, e1]
      rw [hk] at e3
      rw [e3] at HS
      have i1 : (0 : Int) ≤ (i : Int) := by omega
      have i2 : (i : Int) < (ds.length : Int) := by omega
      generalize domsOf ds ms = L at *
      clear hx hxm hrg hg1 hb hlt hrg1 hset hml hlen hlen2 hk e1 e2 e3 hc HD HN hbx
      go_wp2_with (first
        | (at_mapUpdate; refine wp_setPut _ rfl _ _ _ rfl (w.heap.size + 1) L (d : Int) rfl hset1 rfl (by omega) rfl (by omega) ?_; intro w3 hset3 hg3; go_frame)
        | go_in)
      have hne1 : some b ≠ some (w.heap.size + 1) := fun e => by have := Option.some.inj e; have := dUnhide hbl; omega
      have hne2 : some (w.heap.size + 2) ≠ some (w.heap.size + 1) := fun e => by have := Option.some.inj e; omega
      have hrg3 := (dUnhide HR).kept hg3 hne1 hne2
      have HL3 := (dUnhide HR).left_kept hg3 hne1 hne2
      have hbx3 := (World.cell?_of_block (w' := w3) (a := ⟨w.heap.size, 0, none⟩) (hg3.block w.heap.size (dCell_lt hbx1) (by simp))).trans hbx1
      have hb3 : Below w.heap.size w w3 := hb1.grown hg3 hb1.size (fun j hj => by cases hj; omega)
      go_roundw
      case rel => exact ⟨_, hrg3, by rw [dUnhide HS]; exact hset3, hbx3, hb3⟩
      case measure => rw [HL3]; exact dUnhide HL
end Go.Proofs.YthndkkjgjhgdnaaGreatDoor
namespace Go.Proofs.YthndkkjgjhgdnaaGreatDoor
open Go.ChangeShapes Go.WideShapes Go.ChangeAt Go.RowKit
set_option linter.unusedVariables false

set_option maxHeartbeats 2000000 in
theorem ascBelow_any (v : Value) (xs : List Int) (n : Int) (w : World) (hv : Ns w v xs) :
    Calls Tryz.prog 143 #[v, .int .i64 n] w fun e w' => RetB (ascP xs 0 (n - 1)) e ∧ w' = w := by
  obtain ⟨h0, a, cap, rfl, -, hv⟩ := hv
  have HV := dHide hv
  clear hv
  go_enter Tryz.func143, Tryz.ntmps143
  go_wp2
  go_loop [5, 10] (fun l x => ∃ (k : Nat) (p : Int), l = .int .i64 p ∧ x = .int .i64 (k : Int) ∧ k ≤ xs.length ∧ -1 ≤ p ∧ Hid ((k = 0 → p = -1) ∧ ∀ (h : k - 1 < xs.length), 0 < k → p = xs[k - 1]) ∧ Hid (∀ i (h : i < xs.length), i < k → 0 ≤ xs[i] ∧ xs[i] ≤ n - 1 ∧ ∀ (h' : 0 < i), xs[i - 1]'(by omega) < xs[i])) (fun _ x => xs.length - (intOf x).toNat)
  case atStart => exact ⟨0, -1, rfl, rfl, Nat.zero_le _, by omega, ⟨fun _ => rfl, fun h h' => by omega⟩, fun i h h' => by omega⟩
  case round =>
    obtain ⟨k, p, rfl, rfl, hk, hp1, hp, hinv⟩ := hrel
    by_cases hlt : (k : Int) < (xs.length : Int)
    · obtain ⟨b, off, rfl, hc⟩ : ∃ b off, a = some ⟨b, off, none⟩ ∧ ∀ i (h : i < xs.length), w.cell? ⟨b, off + i, none⟩ = some (.int .i64 xs[i]) := orN_of_lt (dUnhide HV) (k := k) (by omega)
      have hkl : k < xs.length := by omega
      have c1 := hc k hkl
      obtain ⟨x, hx⟩ : ∃ x, xs[k] = x := ⟨_, rfl⟩
      have HX := dHide hx
      rw [hx] at c1
      clear hx hc HV
      by_cases hle : x ≤ p
      · have hno : Hid (¬ ascP xs 0 (n - 1)) := fun h => by
          have h1 := h k hkl
          rw [dUnhide HX] at h1
          rcases Nat.eq_zero_or_pos k with hk0 | hk0
          · have := (dUnhide hp).1 hk0
            omega
          · have h2 := h1.2.2 hk0
            have h3 := (dUnhide hp).2 (by omega) hk0
            omega
        have hd : decide (x ≤ p) = true := decide_eq_true hle
        clear hinv hp HX hp1
        go_wp2
        go_ret
        exact ⟨RetB.no (dUnhide hno), rfl⟩
      · have hd : decide (x ≤ p) = false := decide_eq_false hle
        by_cases hge : n ≤ x
        · have hno : Hid (¬ ascP xs 0 (n - 1)) := fun h => by
            have h1 := h k hkl
            rw [dUnhide HX] at h1
            omega
          have hd2 : decide (n ≤ x) = true := decide_eq_true hge
          clear hinv hp HX hp1
          go_wp2
          go_ret
          exact ⟨RetB.no (dUnhide hno), rfl⟩
        · have hd2 : decide (n ≤ x) = false := decide_eq_false hge
          have hst : Hid (∀ i (h : i < xs.length), i < k + 1 → 0 ≤ xs[i] ∧ xs[i] ≤ n - 1 ∧ ∀ (h' : 0 < i), xs[i - 1]'(by omega) < xs[i]) := fun i h h' => by
            rcases Nat.lt_or_ge i k with hlt' | hge'
            · exact dUnhide hinv i h hlt'
            · obtain rfl : i = k := by omega
              have h1 := dUnhide HX
              refine ⟨by omega, by omega, fun h' => ?_⟩
              have h3 := (dUnhide hp).2 (by omega) h'
              omega
          have hpx : Hid (((k + 1 : Nat) = 0 → x = -1) ∧ ∀ (h : k + 1 - 1 < xs.length), 0 < k + 1 → x = xs[k + 1 - 1]) := ⟨fun h => by omega, fun h h' => by simp only [Nat.add_sub_cancel]; exact (dUnhide HX).symm⟩
          have hx1 : -1 ≤ x := by omega
          clear hinv hp HX hp1
          go_wp2
          go_round
          case rel => exact ⟨k + 1, x, rfl, by go_num, by omega, hx1, hpx, hst⟩
          case measure => simp [intOf]; omega
    · have hyes : Hid (ascP xs 0 (n - 1)) := fun i h => dUnhide hinv i h (by omega)
      clear hinv HV hp
      go_wp2
      go_ret
      exact ⟨RetB.yes (dUnhide hyes), rfl⟩
set_option maxHeartbeats 2000000 in
theorem implCfg_any (sv : Value) (ds : List Int) (cop : Int) (w : World) (hv : Ns w sv ds) (ha : allInt ds) (hl : ds.length ≤ 1048576) (c0 : -9223372036854775808 ≤ cop) (c1 : cop ≤ 9223372036854775807) :
    Calls Tryz.prog 83 #[.agg #[sv, .int .i64 cop]] w fun e w' => RetB (cfgP ds cop) e ∧ Below w.heap.size w w' := by
  obtain ⟨h0, a, cap, rfl, -, hv⟩ := hv
  have HV := dHide hv
  clear hv ha
  have hb0 : ∀ o, Below w.heap.size w (w.alloc o) := fun o => (Below.refl _ _).alloc (Nat.le_refl _) o
  by_cases h1 : (ds.length : Int) < 1
  · have hno : Hid (¬ cfgP ds cop) := fun h => by have := h.1; omega
    have hd : decide ((ds.length : Int) < 1) = true := decide_eq_true h1
    clear h1 HV
    go_enter Tryz.func83, Tryz.ntmps83
    go_wp2
    go_ret
    exact ⟨RetB.no (dUnhide hno), hb0 _⟩
  · have hd : decide ((ds.length : Int) < 1) = false := decide_eq_false h1
    by_cases h2 : (8 : Int) < (ds.length : Int)
    · have hno : Hid (¬ cfgP ds cop) := fun h => by have := h.1; omega
      have hd2 : decide ((8 : Int) < (ds.length : Int)) = true := decide_eq_true h2
      clear h1 HV
      go_enter Tryz.func83, Tryz.ntmps83
      go_wp2
      go_ret
      exact ⟨RetB.no (dUnhide hno), hb0 _⟩
    · have hd2 : decide ((8 : Int) < (ds.length : Int)) = false := decide_eq_false h2
      go_enter Tryz.func83, Tryz.ntmps83
      go_wp2
      go_loopw [18] (fun x wr => ∃ k : Nat, x = .int .i64 (k : Int) ∧ k ≤ ds.length ∧ Hid (∀ i (h : i < ds.length), i < k → 0 ≤ ds[i] ∧ ds[i] ≤ 7) ∧ wr.cell? ⟨w.heap.size, 1, none⟩ = some (.int .i64 cop) ∧ Below w.heap.size w wr) (fun x _ => ds.length - (intOf x).toNat)
      case atStart => exact ⟨0, rfl, Nat.zero_le _, (fun i h h' => by omega), by simp, hb0 _⟩
      case round =>
        obtain ⟨k, rfl, hk, hinv, hbx, hb⟩ := hrel
        by_cases hlt : (k : Int) < (ds.length : Int)
        · obtain ⟨b, off, rfl, hc⟩ : ∃ b off, a = some ⟨b, off, none⟩ ∧ ∀ i (h : i < ds.length), w.cell? ⟨b, off + i, none⟩ = some (.int .i64 ds[i]) := orN_of_lt (dUnhide HV) (k := k) (by omega)
          have hkl : k < ds.length := by omega
          have e1 : wr.cell? ⟨b, off + k, none⟩ = some (.int .i64 ds[k]) := (hb.cell (p := ⟨b, off + k, none⟩) (dCell_lt (hc k hkl))).trans (hc k hkl)
          obtain ⟨x, hx⟩ : ∃ x, ds[k] = x := ⟨_, rfl⟩
          have HX := dHide hx
          rw [hx] at e1
          clear hx hc
          by_cases hin : x < 0
          · have hno : Hid (¬ cfgP ds cop) := fun h => by
              have := h.2.2 k hkl
              rw [dUnhide HX] at this
              omega
            have hd3 : decide (x < 0) = true := decide_eq_true hin
            clear hin hinv HX HV h1 h2
            go_wp2
            go_ret
            exact ⟨RetB.no (dUnhide hno), hb⟩
          · have hd3 : decide (x < 0) = false := decide_eq_false hin
            by_cases hin2 : 7 < x
            · have hno : Hid (¬ cfgP ds cop) := fun h => by
                have := h.2.2 k hkl
                rw [dUnhide HX] at this
                omega
              have hd4 : decide (7 < x) = true := decide_eq_true hin2
              clear hin hin2 hinv HX HV h1 h2
              go_wp2
              go_ret
              exact ⟨RetB.no (dUnhide hno), hb⟩
            · have hd4 : decide (7 < x) = false := decide_eq_false hin2
              have hst : Hid (∀ i (h : i < ds.length), i < k + 1 → 0 ≤ ds[i] ∧ ds[i] ≤ 7) := fun i h h' => by
                rcases Nat.lt_or_ge i k with hlt' | hge
                · exact dUnhide hinv i h hlt'
                · obtain rfl : i = k := by omega
                  rw [dUnhide HX]
                  omega
              clear hin hin2 hinv HX HV h1 h2
              go_wp2
              go_roundw
              case rel => exact ⟨k + 1, by go_num, by omega, hst, hbx, hb⟩
              case measure => simp [intOf]; omega
        · have hall : Hid (∀ i (h : i < ds.length), 0 ≤ ds[i] ∧ ds[i] ≤ 7) := fun i h => dUnhide hinv i h (by omega)
          by_cases h3 : 1 ≤ cop
          · have hd3 : decide (1 ≤ cop) = true := decide_eq_true h3
            have R : RetB (cfgP ds cop) (.returned (.bool (decide (cop ≤ 4)))) := ⟨_, rfl, fun h => ⟨by omega, ⟨h3, of_decide_eq_true h⟩, dUnhide hall⟩, fun h => decide_eq_true h.2.1.2⟩
            clear hinv HV hall h1 h2
            go_wp2
            go_ret
            exact ⟨R, hb⟩
          · have hd3 : decide (1 ≤ cop) = false := decide_eq_false h3
            have R : RetB (cfgP ds cop) (.returned (.bool false)) := RetB.no fun h => h3 h.2.1.1
            clear hinv HV hall h1 h2
            go_wp2
            go_ret
            exact ⟨R, hb⟩
end Go.Proofs.YthndkkjgjhgdnaaGreatDoor
namespace Go.Proofs.YthndkkjgjhgdnaaGreatDoor
open Go.ChangeShapes Go.WideShapes Go.ChangeAt Go.RowKit
set_option linter.unusedVariables false

/-- How many numbers a set has, as a step of a region that draws. -/
theorem step_setLen {ops : Array Oper} {o : Oper} {a : Act} {w : World} {K : Act → World → Prop} {Q : Exit → Act → World → Prop} {E : Prop}
    (hg : o.guard = none) (m : Operand) (hop : o.op = .call { callee := .builtin .len, args := #[m], argTypes := #[213] })
    (b : Nat) (xs : List Int) (hm : a.eval m = .map (some b)) (h : SetN w b xs) (hK : K (a.put o.dst (.int .i64 (xs.length : Int))) w) :
    if Region.wanted o (yielded ops a.tmps) = true then Oper.wp Tryz.prog o a w K Q else E := by
  have hw : Region.wanted o (yielded ops a.tmps) = true := by simp [Region.wanted, hg]
  rw [if_pos hw]
  obtain ⟨h1, h2, D, h3, h4, h5⟩ := h
  have hr := h3.len Tryz.underlying213 o.type
  rw [h4] at hr
  unfold Oper.wp
  simp [execOp, hop, resolve, invoke, builtin, hm, hr, Result.andThen]
  exact hK
set_option maxHeartbeats 2000000 in
theorem implNodes_any (sv v : Value) (ds xs : List Int) (cop : Int) (w : World) (hd : Ns w sv ds) (hv : Ns w v xs) (had : allInt ds) (hax : allInt xs) (hld : ds.length ≤ 1048576) (hlx : xs.length ≤ 1048576) (c0 : -9223372036854775808 ≤ cop) (c1 : cop ≤ 9223372036854775807) :
    Calls Tryz.prog 134 #[.agg #[sv, .int .i64 cop], v] w fun e w' => RetB (nodesP ds cop xs) e ∧ Below w.heap.size w w' := by
  have hb0 : ∀ o, Below w.heap.size w (w.alloc o) := fun o => (Below.refl _ _).alloc (Nat.le_refl _) o
  have C1 := dHide fun o => implCfg_any sv ds cop (w.alloc o) (hd.below (hb0 o)) had hld c0 c1
  have C2 := dHide fun W (hb : Below w.heap.size w W) => ascBelow_any v xs (ds.length : Int) W (hv.below hb)
  obtain ⟨h0, a, cap, rfl, -, -⟩ := hd
  obtain ⟨h0', a', cap', rfl, -, -⟩ := hv
  clear had hax
  go_enter Tryz.func134, Tryz.ntmps134
  go_wp2_with fail
  refine (dUnhide C1 _).mono ?_
  rintro e w1 ⟨⟨b, rfl, hbb⟩, b1⟩
  have B1 := belowThen (hb0 _) b1
  have k0 : w1.cell? ⟨w.heap.size, 0, none⟩ = some (.slice a ds.length cap) := (b1.cell (p := ⟨w.heap.size, 0, none⟩) (by simp)).trans (by simp)
  clear b1 hb0 C1
  cases b
  · have hno : Hid (¬ nodesP ds cop xs) := fun h => by have := hbb.2 h.1; cases this
    clear hbb
    go_wp2
    go_ret
    exact ⟨RetB.no (dUnhide hno), B1⟩
  · have hyes := hbb.1 rfl
    have HY := dHide hyes
    clear hbb hyes
    go_wp2_with fail
    refine (dUnhide C2 _ B1).mono ?_
    rintro e w2 ⟨⟨b, rfl, hbb⟩, rfl⟩
    have R : RetB (nodesP ds cop xs) (.returned (.bool b)) := ⟨b, rfl, fun h => ⟨dUnhide HY, hbb.1 h⟩, fun h => hbb.2 h.2⟩
    clear hbb C2 k0 HY
    cases b
    · go_wp2
      go_ret
      exact ⟨R, B1⟩
    · go_wp2
      go_ret
      exact ⟨R, B1⟩
theorem nodes_asc {ds xs : List Int} {cop : Int} (h : nodesP ds cop xs) : xs.Pairwise (· < ·) := ((ascP_iff _ _ _).1 h.2).1
theorem nodup_of_asc {xs : List Int} (h : xs.Pairwise (· < ·)) : xs.Nodup := h.imp fun {a b} h e => by omega
theorem dedL_nodes {ds xs : List Int} {cop : Int} (h : nodesP ds cop xs) : dedL xs = xs := dedL_nodup (nodup_of_asc (nodes_asc h))
set_option maxHeartbeats 2000000 in
theorem implSpan_yes (sv v : Value) (ds xs : List Int) (cop : Int) (w : World) (hd : Ns w sv ds) (hv : Ns w v xs) (had : allInt ds) (hax : allInt xs) (hld : ds.length ≤ 1048576) (hlx : xs.length ≤ 1048576) (c0 : -9223372036854775808 ≤ cop) (c1 : cop ≤ 9223372036854775807) (hn : nodesP ds cop xs) :
    Calls Tryz.prog 135 #[.agg #[sv, .int .i64 cop], v] w fun e w' => e = .returned (.int .i64 (spanN ds xs : Int)) ∧ Below w.heap.size w w' := by
  have hb0 : ∀ o, Below w.heap.size w (w.alloc o) := fun o => (Below.refl _ _).alloc (Nat.le_refl _) o
  have C1 := dHide fun o => implNodes_any sv v ds xs cop (w.alloc o) (hd.below (hb0 o)) (hv.below (hb0 o)) had hax hld hlx c0 c1
  have C2 := dHide fun W (hb : Below w.heap.size w W) => setOf_any v xs W (hv.below hb) hax hlx
  rw [dedL_nodes hn] at C2
  have C3 := dHide fun b W (hb : Below w.heap.size w W) hs => domainsOf_any sv b ds xs cop W (hd.below hb) hs hn hlx
  have HN := dHide hn
  clear hn had hax
  have hsp : (spanN ds xs : Int) = ((domsOf ds xs).length : Int) := rfl
  have HSP := dHide hsp
  clear hsp
  obtain ⟨h0, a, cap, rfl, -, -⟩ := hd
  obtain ⟨h0', a', cap', rfl, -, -⟩ := hv
  go_enter Tryz.func135, Tryz.ntmps135
  go_wp2_with fail
  have T0 := Two.new w (.slice a ds.length cap) (.int .i64 cop) 26
  refine (dUnhide C1 _).mono ?_
  rintro e w1 ⟨hr, b1⟩
  obtain rfl := hr.of_yes (dUnhide HN)
  have T1 := T0.kept b1
  have HT := dHide T1
  obtain ⟨k0, k1⟩ := T1
  have B1 := belowThen (hb0 _) b1
  clear hr b1 hb0 C1 T0
  generalize domsOf ds xs = L at *
  go_wp2_with fail
  have hbr := Below.refl w1.heap.size w1
  refine wp_region_noPanic ?_
  refine wp_region_held_drew (S := (fun W => W.cell? ⟨w.heap.size, 0, none⟩ = some (.slice a ds.length cap) ∧ W.cell? ⟨w.heap.size, 1, none⟩ = some (.int .i64 cop))) (by kernel_rfl) ?_ (fun hHeld => ?_)
  · go_keep
  refine wpAnyH_take (i := 0) (oi := { dst := some 9, op := Op.load 26 (Operand.tmp 2), type := 26, pos := "l04_domain.go:103", after := #[], guard := none }) (v := ?_) rfl (by kernel_rfl) (by kernel_rfl) (by kernel_rfl) (fun _ _ _ h => h) (Or.inl ⟨by rfl, ?_⟩) (by assumption) ?_
  rotate_left 1
  · intro w hSw
    (try dsimp only at hSw)
    first | (go_simp; done) | (go_simp; with_reducible rfl)
  try simp only [Act.put, List.setIfInBounds_toArray, List.set_cons_zero, List.set_cons_succ]
  refine wpAnyH_take (i := 1) (oi := { dst := some 10, op := Op.move (Operand.tmp 1), type := 24, pos := "l04_domain.go:103", after := #[], guard := none }) (v := ?_) rfl (by kernel_rfl) (by kernel_rfl) (by kernel_rfl) (fun _ _ _ h => h) (Or.inl ⟨by rfl, ?_⟩) (by assumption) ?_
  rotate_left 1
  · intro w hSw
    (try dsimp only at hSw)
    first | (go_simp; done) | (go_simp; with_reducible rfl)
  try simp only [Act.put, List.setIfInBounds_toArray, List.set_cons_zero, List.set_cons_succ]
  refine wpAnyH_ready (rs := [2]) (by kernel_rfl) (by simp) ?_
  refine AllReadyH.cons (o := { dst := some 11, op := Op.call { callee := Callee.value (Operand.func 145), args := #[Operand.tmp 10], argTypes := #[24] }, type := 213, pos := "l04_domain.go:103", after := #[{ on := 1, ground := Ground.data }], guard := none }) rfl (fun K hK => ?_) AllReadyH.nil
  go_simp
  refine (dUnhide C2 _ (belowThen B1 hbr.drew)).mono ?_
  rintro e w2 ⟨rfl, s2, b2⟩
  have hb2 := belowThen hbr.drew b2
  obtain ⟨q0, q1⟩ := (dUnhide HT).kept hb2
  (try go_wp2_with fail)
  refine hK.out _ _ ?_ (fun hHeld => ?_)
  · go_keep
  clear hK K
  try simp only [Act.put, List.setIfInBounds_toArray, List.set_cons_zero, List.set_cons_succ]
  refine wpAnyH_ready (rs := [3]) (by kernel_rfl) (by simp) ?_
  refine AllReadyH.cons (o := { dst := some 12, op := Op.call { callee := Callee.value (Operand.func 144), args := #[Operand.tmp 9, Operand.tmp 11], argTypes := #[26, 213] }, type := 213, pos := "l04_domain.go:103", after := #[{ on := 0, ground := Ground.data }, { on := 2, ground := Ground.data }, { on := 2, ground := Ground.chain }], guard := none }) rfl (fun K hK => ?_) AllReadyH.nil
  go_simp
  refine (dUnhide C3 _ _ (belowThen B1 hb2) s2).mono ?_
  rintro e w3 ⟨rfl, s3, b3⟩
  have hb3 := belowThen hb2 b3
  obtain ⟨q0, q1⟩ := (dUnhide HT).kept hb3
  (try go_wp2_with fail)
  refine hK.out _ _ ?_ (fun hHeld => ?_)
  · go_keep
  clear hK K
  try simp only [Act.put, List.setIfInBounds_toArray, List.set_cons_zero, List.set_cons_succ]
  refine wpAnyH_ready (rs := [4]) (by kernel_rfl) (by simp) ?_
  refine AllReadyH.cons (o := { dst := some 13, op := Op.call { callee := Callee.builtin Builtin.len, args := #[Operand.tmp 12], argTypes := #[213] }, type := 3, pos := "l04_domain.go:103", after := #[{ on := 3, ground := Ground.data }, { on := 3, ground := Ground.chain }], guard := none }) rfl (fun K hK => ?_) AllReadyH.nil
  refine step_setLen rfl _ rfl _ L rfl s3 ?_
  refine hK.out _ _ ?_ (fun hHeld => ?_)
  · go_keep
  clear hK K
  try simp only [Act.put, List.setIfInBounds_toArray, List.set_cons_zero, List.set_cons_succ]
  refine wpAnyH_take (i := 5) (oi := { dst := some 4, op := Op.assign (Operand.tmp 13), type := 3, pos := "l04_domain.go:103", after := #[{ on := 4, ground := Ground.data }, { on := 4, ground := Ground.chain }, { on := 0, ground := Ground.phase }, { on := 1, ground := Ground.phase }, { on := 2, ground := Ground.phase }, { on := 3, ground := Ground.phase }, { on := 4, ground := Ground.phase }], guard := none }) (v := ?_) rfl (by kernel_rfl) (by kernel_rfl) (by kernel_rfl) (fun _ _ _ h => h) (Or.inl ⟨by rfl, ?_⟩) (by assumption) ?_
  rotate_left 1
  · intro w hSw
    (try dsimp only at hSw)
    first | (go_simp; done) | (go_simp; with_reducible rfl)
  try simp only [Act.put, List.setIfInBounds_toArray, List.set_cons_zero, List.set_cons_succ]
  refine wpAnyH_done (by kernel_rfl) ?_ _
  refine NoPanic.normal ?_
  go_wp2
  go_ret
  exact ⟨by rw [dUnhide HSP]; rfl, belowThen B1 hb3⟩
theorem implSpan_no (sv v : Value) (ds xs : List Int) (cop : Int) (w : World) (hd : Ns w sv ds) (hv : Ns w v xs) (had : allInt ds) (hax : allInt xs) (hld : ds.length ≤ 1048576) (hlx : xs.length ≤ 1048576) (c0 : -9223372036854775808 ≤ cop) (c1 : cop ≤ 9223372036854775807) (hn : ¬ nodesP ds cop xs) :
    Calls Tryz.prog 135 #[.agg #[sv, .int .i64 cop], v] w fun e w' => e = .returned (.int .i64 (-1)) ∧ Below w.heap.size w w' := by
  have hb0 : ∀ o, Below w.heap.size w (w.alloc o) := fun o => (Below.refl _ _).alloc (Nat.le_refl _) o
  have C1 := dHide fun o => implNodes_any sv v ds xs cop (w.alloc o) (hd.below (hb0 o)) (hv.below (hb0 o)) had hax hld hlx c0 c1
  have HN := dHide hn
  clear hn had hax
  obtain ⟨h0, a, cap, rfl, -, -⟩ := hd
  obtain ⟨h0', a', cap', rfl, -, -⟩ := hv
  go_enter Tryz.func135, Tryz.ntmps135
  go_wp2_with fail
  refine (dUnhide C1 _).mono ?_
  rintro e w1 ⟨hr, b1⟩
  obtain rfl := hr.of_no (dUnhide HN)
  have B1 := belowThen (hb0 _) b1
  clear hr b1 hb0 C1
  go_wp2
  go_ret
  exact ⟨rfl, B1⟩
end Go.Proofs.YthndkkjgjhgdnaaGreatDoor
namespace Go.Proofs.YthndkkjgjhgdnaaGreatDoor
open Go.ChangeShapes Go.WideShapes Go.ChangeAt Go.RowKit
set_option linter.unusedVariables false

set_option maxHeartbeats 2000000 in
theorem implHolds_any (sv v : Value) (ds xs : List Int) (cop : Int) (w : World) (hd : Ns w sv ds) (hv : Ns w v xs) (had : allInt ds) (hax : allInt xs) (hld : ds.length ≤ 1048576) (hlx : xs.length ≤ 1048576) (c0 : -9223372036854775808 ≤ cop) (c1 : cop ≤ 9223372036854775807) :
    Calls Tryz.prog 118 #[.agg #[sv, .int .i64 cop], v] w fun e w' => RetB (holdsP ds cop xs) e ∧ Below w.heap.size w w' := by
  have hb0 : ∀ o, Below w.heap.size w (w.alloc o) := fun o => (Below.refl _ _).alloc (Nat.le_refl _) o
  have C1 := dHide fun W (hb : Below w.heap.size w W) => implNodes_any sv v ds xs cop W (hd.below hb) (hv.below hb) had hax hld hlx c0 c1
  have C2 := dHide fun W (hb : Below w.heap.size w W) hn => implSpan_yes sv v ds xs cop W (hd.below hb) (hv.below hb) had hax hld hlx c0 c1 hn
  clear had hax
  obtain ⟨h0, a, cap, rfl, -, -⟩ := hd
  obtain ⟨h0', a', cap', rfl, -, -⟩ := hv
  by_cases hn : nodesP ds cop xs
  · have HN := dHide hn
    have C2 := dHide fun W hb => dUnhide C2 W hb hn
    have R : RetB (holdsP ds cop xs) (.returned (.bool (decide (cop ≤ (spanN ds xs : Int))))) := ⟨_, rfl, fun h => ⟨hn, of_decide_eq_true h⟩, fun h => decide_eq_true h.2⟩
    clear hn
    generalize (spanN ds xs : Int) = N at *
    go_enter Tryz.func118, Tryz.ntmps118
    go_wp2
    have T0 := Two.new w (.slice a ds.length cap) (.int .i64 cop) 26
    have B0 := hb0 (.cells #[.slice a ds.length cap, .int .i64 cop] 26)
    generalize hW : w.alloc (.cells #[.slice a ds.length cap, .int .i64 cop] 26) = w0 at *
    clear hW hb0
    have HT := dHide T0
    obtain ⟨k0, k1⟩ := T0
    have hbr := Below.refl w0.heap.size w0
    go_region_held3 (fun W => W.cell? ⟨w.heap.size, 0, none⟩ = some (.slice a ds.length cap) ∧ W.cell? ⟨w.heap.size, 1, none⟩ = some (.int .i64 cop)) (go_keep)
      (first
        | (go_at_call 134; refine (dUnhide C1 _ (belowThen B0 hbr.drew)).mono ?_; rintro e w1 ⟨hr, b1⟩; obtain rfl := hr.of_yes (dUnhide HN); have hb1 := belowThen hbr.drew b1; obtain ⟨q0, q1⟩ := (dUnhide HT).kept hb1)
        | (go_at_call 135; refine (dUnhide C2 _ (belowThen B0 hb1)).mono ?_; rintro e w2 ⟨rfl, b2⟩; have hb2 := belowThen hb1 b2; obtain ⟨q0, q1⟩ := (dUnhide HT).kept hb2))
    all_goals
      go_wp2
      go_ret
      exact ⟨R, belowThen B0 hb2⟩
  · have HN := dHide hn
    have R : RetB (holdsP ds cop xs) (.returned (.bool false)) := RetB.no fun h => hn h.1
    clear hn C2
    go_enter Tryz.func118, Tryz.ntmps118
    go_wp2
    have T0 := Two.new w (.slice a ds.length cap) (.int .i64 cop) 26
    have B0 := hb0 (.cells #[.slice a ds.length cap, .int .i64 cop] 26)
    generalize hW : w.alloc (.cells #[.slice a ds.length cap, .int .i64 cop] 26) = w0 at *
    clear hW hb0
    have HT := dHide T0
    obtain ⟨k0, k1⟩ := T0
    have hbr := Below.refl w0.heap.size w0
    refine wp_region_noPanic ?_
    refine wp_region_held_drew (S := fun W => W.cell? ⟨w.heap.size, 0, none⟩ = some (.slice a ds.length cap) ∧ W.cell? ⟨w.heap.size, 1, none⟩ = some (.int .i64 cop)) (by kernel_rfl) ?_ (fun hHeld => ?_)
    · go_keep
    refine wpAnyH_take (i := 0) (oi := { dst := some 5, op := Op.load 26 (Operand.tmp 2), type := 26, pos := "l04_domain.go:108", after := #[], guard := none }) (v := ?_) rfl (by kernel_rfl) (by kernel_rfl) (by kernel_rfl) (fun _ _ _ h => h) (Or.inl ⟨by rfl, ?_⟩) (by assumption) ?_
    rotate_left 1
    · intro w hSw
      (try dsimp only at hSw)
      first | (go_simp; done) | (go_simp; with_reducible rfl)
    try simp only [Act.put, List.setIfInBounds_toArray, List.set_cons_zero, List.set_cons_succ]
    refine wpAnyH_take (i := 1) (oi := { dst := some 6, op := Op.move (Operand.tmp 1), type := 24, pos := "l04_domain.go:108", after := #[], guard := none }) (v := ?_) rfl (by kernel_rfl) (by kernel_rfl) (by kernel_rfl) (fun _ _ _ h => h) (Or.inl ⟨by rfl, ?_⟩) (by assumption) ?_
    rotate_left 1
    · intro w hSw
      (try dsimp only at hSw)
      first | (go_simp; done) | (go_simp; with_reducible rfl)
    try simp only [Act.put, List.setIfInBounds_toArray, List.set_cons_zero, List.set_cons_succ]
    refine wpAnyH_ready (rs := [2]) (by kernel_rfl) (by simp) ?_
    refine AllReadyH.cons (o := { dst := some 7, op := Op.call { callee := Callee.value (Operand.func 134), args := #[Operand.tmp 5, Operand.tmp 6], argTypes := #[26, 24] }, type := 4, pos := "l04_domain.go:108", after := #[{ on := 0, ground := Ground.data }, { on := 1, ground := Ground.data }], guard := none }) rfl (fun K hK => ?_) AllReadyH.nil
    go_simp
    refine (dUnhide C1 _ (belowThen B0 hbr.drew)).mono ?_
    rintro e w1 ⟨hr, b1⟩
    obtain rfl := hr.of_no (dUnhide HN)
    have hb1 := belowThen hbr.drew b1
    obtain ⟨q0, q1⟩ := (dUnhide HT).kept hb1
    (try go_wp2_with fail)
    refine hK.out _ _ ?_ (fun hHeld => ?_)
    · go_keep
    clear hK K
    try simp only [Act.put, List.setIfInBounds_toArray, List.set_cons_zero, List.set_cons_succ]
    refine wpAnyH_take (i := 3) (oi := { dst := some 8, op := Op.move (Operand.tmp 7), type := 4, pos := "l04_domain.go:108", after := #[{ on := 2, ground := Ground.data }, { on := 2, ground := Ground.chain }], guard := none }) (v := ?_) rfl (by kernel_rfl) (by kernel_rfl) (by kernel_rfl) (fun _ _ _ h => h) (Or.inl ⟨by rfl, ?_⟩) (by assumption) ?_
    rotate_left 1
    · intro w hSw
      (try dsimp only at hSw)
      first | (go_simp; done) | (go_simp; with_reducible rfl)
    try simp only [Act.put, List.setIfInBounds_toArray, List.set_cons_zero, List.set_cons_succ]
    refine wpAnyH_take (i := 4) (oi := { dst := some 9, op := Op.load 26 (Operand.tmp 2), type := 26, pos := "l04_domain.go:108", after := #[{ on := 3, ground := Ground.guard }], guard := some (3, true) }) (v := undef) rfl (by kernel_rfl) (by kernel_rfl) (by kernel_rfl) (fun _ _ _ h => h) (Or.inr ⟨by rfl, rfl⟩) (by assumption) ?_
    try simp only [Act.put, List.setIfInBounds_toArray, List.set_cons_zero, List.set_cons_succ]
    refine wpAnyH_take (i := 5) (oi := { dst := some 10, op := Op.move (Operand.tmp 1), type := 24, pos := "l04_domain.go:108", after := #[{ on := 3, ground := Ground.guard }], guard := some (3, true) }) (v := undef) rfl (by kernel_rfl) (by kernel_rfl) (by kernel_rfl) (fun _ _ _ h => h) (Or.inr ⟨by rfl, rfl⟩) (by assumption) ?_
    try simp only [Act.put, List.setIfInBounds_toArray, List.set_cons_zero, List.set_cons_succ]
    refine wpAnyH_take (i := 6) (oi := { dst := some 11, op := Op.call { callee := Callee.value (Operand.func 135), args := #[Operand.tmp 9, Operand.tmp 10], argTypes := #[26, 24] }, type := 3, pos := "l04_domain.go:108", after := #[{ on := 4, ground := Ground.data }, { on := 5, ground := Ground.data }, { on := 3, ground := Ground.chain }, { on := 3, ground := Ground.guard }], guard := some (3, true) }) (v := undef) rfl (by kernel_rfl) (by kernel_rfl) (by kernel_rfl) (fun _ _ _ h => h) (Or.inr ⟨by rfl, rfl⟩) (by assumption) ?_
    try simp only [Act.put, List.setIfInBounds_toArray, List.set_cons_zero, List.set_cons_succ]
    refine wpAnyH_take (i := 7) (oi := { dst := some 12, op := Op.fieldAddr 26 (Operand.tmp 2) 1, type := 0, pos := "l04_domain.go:108", after := #[{ on := 3, ground := Ground.guard }], guard := some (3, true) }) (v := undef) rfl (by kernel_rfl) (by kernel_rfl) (by kernel_rfl) (fun _ _ _ h => h) (Or.inr ⟨by rfl, rfl⟩) (by assumption) ?_
    try simp only [Act.put, List.setIfInBounds_toArray, List.set_cons_zero, List.set_cons_succ]
    refine wpAnyH_take (i := 8) (oi := { dst := some 13, op := Op.load 3 (Operand.tmp 12), type := 3, pos := "l04_domain.go:108", after := #[{ on := 7, ground := Ground.data }, { on := 3, ground := Ground.guard }], guard := some (3, true) }) (v := undef) rfl (by kernel_rfl) (by kernel_rfl) (by kernel_rfl) (fun _ _ _ h => h) (Or.inr ⟨by rfl, rfl⟩) (by assumption) ?_
    try simp only [Act.put, List.setIfInBounds_toArray, List.set_cons_zero, List.set_cons_succ]
    refine wpAnyH_take (i := 9) (oi := { dst := some 14, op := Op.binOp BinOp.geq 3 (Operand.tmp 11) (Operand.tmp 13) 3, type := 4, pos := "l04_domain.go:108", after := #[{ on := 6, ground := Ground.data }, { on := 8, ground := Ground.data }, { on := 3, ground := Ground.guard }], guard := some (3, true) }) (v := undef) rfl (by kernel_rfl) (by kernel_rfl) (by kernel_rfl) (fun _ _ _ h => h) (Or.inr ⟨by rfl, rfl⟩) (by assumption) ?_
    try simp only [Act.put, List.setIfInBounds_toArray, List.set_cons_zero, List.set_cons_succ]
    refine wpAnyH_take (i := 10) (oi := { dst := some 15, op := Op.pick (Operand.tmp 8) (Operand.tmp 14) (Operand.const (Value.bool false)), type := 4, pos := "l04_domain.go:108", after := #[{ on := 3, ground := Ground.data }, { on := 9, ground := Ground.data }], guard := none }) (v := ?_) rfl (by kernel_rfl) (by kernel_rfl) (by kernel_rfl) (fun _ _ _ h => h) (Or.inl ⟨by rfl, ?_⟩) (by assumption) ?_
    rotate_left 1
    · intro w hSw
      (try dsimp only at hSw)
      first | (go_simp; done) | (go_simp; with_reducible rfl)
    try simp only [Act.put, List.setIfInBounds_toArray, List.set_cons_zero, List.set_cons_succ]
    refine wpAnyH_take (i := 11) (oi := { dst := some 4, op := Op.assign (Operand.tmp 15), type := 4, pos := "l04_domain.go:108", after := #[{ on := 10, ground := Ground.data }, { on := 6, ground := Ground.chain }, { on := 0, ground := Ground.phase }, { on := 1, ground := Ground.phase }, { on := 2, ground := Ground.phase }, { on := 3, ground := Ground.phase }, { on := 4, ground := Ground.phase }, { on := 5, ground := Ground.phase }, { on := 6, ground := Ground.phase }, { on := 7, ground := Ground.phase }, { on := 8, ground := Ground.phase }, { on := 9, ground := Ground.phase }, { on := 10, ground := Ground.phase }], guard := none }) (v := ?_) rfl (by kernel_rfl) (by kernel_rfl) (by kernel_rfl) (fun _ _ _ h => h) (Or.inl ⟨by rfl, ?_⟩) (by assumption) ?_
    rotate_left 1
    · intro w hSw
      (try dsimp only at hSw)
      first | (go_simp; done) | (go_simp; with_reducible rfl)
    try simp only [Act.put, List.setIfInBounds_toArray, List.set_cons_zero, List.set_cons_succ]
    refine wpAnyH_done (by kernel_rfl) ?_ _
    refine NoPanic.normal ?_
    go_wp2
    go_ret
    exact ⟨R, belowThen B0 hb1⟩
end Go.Proofs.YthndkkjgjhgdnaaGreatDoor
