/- Several texts in one: SetP, ImpDa, ImpDb, ImpDd, ImpDe, ImpDh. -/
import Derived.Test.YthndkkjgjhgdnaaDoorGaC
import Derived.Test.YthndkkjgjhgdnaaDoorGaD
import Derived.Maps.RangeWalk
import Derived.Carry
import Derived.Deep.RegionHeld3
namespace Go.Proofs.YthndkkjgjhgdnaaDoor
open Go.ChangeShapes Go.WideShapes Go.ChangeAt Go.RowKit
set_option linter.unusedVariables false

theorem keyI : Go.Maps.Keyed Tryd.prog 3 := Go.Maps.int_keyed Tryd.underlying3
theorem zeroU (w : World) : (zeroValue 172).run Tryd.prog w = .ok (.agg #[]) w := by kernel_rfl
theorem wf_int {z : Int} (h : -9223372036854775808 ≤ z ∧ z ≤ 9223372036854775807) : (Lit.int .i64 z).wf = true := WalkArith.wf_i64 (by omega)
theorem int_wf {z : Int} (h : (Lit.int .i64 z).wf = true) : -9223372036854775808 ≤ z ∧ z ≤ 9223372036854775807 := by
  simp only [Lit.wf, Bool.and_eq_true, decide_eq_true_eq] at h
  exact h
theorem keyOf_z {z : Int} (h : -9223372036854775808 ≤ z ∧ z ≤ 9223372036854775807) : keyOf Tryd.prog 3 (.int .i64 z) = some (.int .i64 z) := Go.Maps.keyOf_int_mk Tryd.underlying3 (wf_int h)
theorem grownBy_of_below {w w' : World} (h : Below w.heap.size w w') : w.grownBy w' none := ⟨h.os, h.tape, h.output, h.size, fun k hk _ => h.block k hk⟩
theorem own_tight {P : Program} {k : TypeId} {R : Value → Option (DataW Unit × List MemPlace)} {w : World} {b n : Nat} {D : DataW Unit} (h : w.ownsMap P k R b n D) : w.ownsMap P k R b (Maps.size D) D := by
  obtain ⟨es, clock, hb, F, hs, rfl⟩ := h
  exact ⟨es, clock, hb, F, by simp [Maps.size, length_sorted], rfl⟩

/-- The map in block b holds just the numbers xs, each once. -/
def SetN (w : World) (b : Nat) (xs : List Int) : Prop :=
  xs.Nodup ∧ allInt xs ∧ ∃ D : DataW Unit, w.ownsMap Tryd.prog 3 (unitElem (H := Unit)) b xs.length D ∧ Maps.size D = xs.length ∧ ∀ z, Maps.has D (.int .i64 z) = decide (z ∈ xs)
theorem SetN.lt {w : World} {b : Nat} {xs : List Int} (h : SetN w b xs) : b < w.heap.size := by
  obtain ⟨-, -, D, h, -⟩ := h
  exact h.lt
theorem SetN.kept {w w' : World} {b : Nat} {xs : List Int} {row : Option Nat} (h : SetN w b xs) (hg : w.grownBy w' row) (hne : some b ≠ row) : SetN w' b xs := by
  obtain ⟨h1, h2, D, h3, h4⟩ := h
  exact ⟨h1, h2, D, h3.kept hg hne, h4⟩
theorem SetN.below {w w' : World} {b : Nat} {xs : List Int} (h : SetN w b xs) (hb : Below w.heap.size w w') : SetN w' b xs := h.kept (grownBy_of_below hb) (by simp)
theorem SetN.alloc {w : World} {b : Nat} {xs : List Int} (h : SetN w b xs) (o : Obj) : SetN (w.alloc o) b xs := h.kept (World.grownBy_alloc w o none) (by simp)
theorem SetN.made (w : World) : SetN (w.alloc (.map #[] 0)) w.heap.size [] := ⟨List.nodup_nil, (fun x h => by cases h), .map [], World.ownsMap_made _ _ _ _, rfl, fun z => by simp [Maps.has]⟩
theorem SetN.perm {w : World} {b : Nat} {xs ys : List Int} (h : SetN w b xs) (hp : xs.Perm ys) : SetN w b ys := by
  obtain ⟨h1, h2, D, h3, h4, h5⟩ := h
  refine ⟨hp.nodup_iff.1 h1, fun x hx => h2 x (hp.mem_iff.2 hx), D, by rw [← hp.length_eq]; exact h3, by rw [← hp.length_eq]; exact h4, fun z => by rw [h5 z]; simp [hp.mem_iff]⟩
/-- A range over the set xs in block b, by the iterator in block r, that has met the numbers ys. -/
def RangeN (w : World) (b r : Nat) (xs ys : List Int) : Prop :=
  xs.Nodup ∧ allInt xs ∧ ys.Nodup ∧ (∀ y ∈ ys, y ∈ xs) ∧ ∃ (D : DataW Unit) (left : Lit → Bool) (cnt : Nat), w.ranges Tryd.prog 3 (unitElem (H := Unit)) b r xs.length D left cnt ∧ Maps.size D = xs.length ∧ (∀ z, Maps.has D (.int .i64 z) = decide (z ∈ xs)) ∧ ∀ z, left (.int .i64 z) = (decide (z ∈ xs) && !decide (z ∈ ys))
theorem RangeN.set {w : World} {b r : Nat} {xs ys : List Int} (h : RangeN w b r xs ys) : SetN w b xs := by
  obtain ⟨h1, h2, -, -, D, left, cnt, h3, h4, h5, -⟩ := h
  exact ⟨h1, h2, D, h3.owns, h4, h5⟩
theorem RangeN.lt {w : World} {b r : Nat} {xs ys : List Int} (h : RangeN w b r xs ys) : r < w.heap.size := by
  obtain ⟨-, -, -, -, D, left, cnt, h3, -⟩ := h
  exact h3.lt
theorem RangeN.kept {w w' : World} {b r : Nat} {xs ys : List Int} {row : Option Nat} (h : RangeN w b r xs ys) (hg : w.grownBy w' row) (hb : some b ≠ row) (hr : some r ≠ row) : RangeN w' b r xs ys := by
  obtain ⟨h1, h2, h3, h4, D, left, cnt, h5, h6⟩ := h
  exact ⟨h1, h2, h3, h4, D, left, cnt, h5.kept hg hb hr, h6⟩
theorem RangeN.alloc {w : World} {b r : Nat} {xs ys : List Int} (h : RangeN w b r xs ys) (o : Obj) : RangeN (w.alloc o) b r xs ys := h.kept (World.grownBy_alloc w o none) (by simp) (by simp)
theorem RangeN.below {w w' : World} {b r : Nat} {xs ys : List Int} (h : RangeN w b r xs ys) (hb : Below w.heap.size w w') : RangeN w' b r xs ys := h.kept (grownBy_of_below hb) (by simp) (by simp)
/-- Two worlds in which the range stands alike. -/
theorem RangeN.left_kept {w w' : World} {b r : Nat} {xs ys : List Int} {row : Option Nat} (h : RangeN w b r xs ys) (hg : w.grownBy w' row) (hb : some b ≠ row) (hr : some r ≠ row) : w'.rangeLeft b r = w.rangeLeft b r := by
  obtain ⟨h1, h2, h3, h4, D, left, cnt, h5, h6⟩ := h
  rw [(h5.kept hg hb hr).left_eq, h5.left_eq]
theorem RangeN.left_below {w w' : World} {b r : Nat} {xs ys : List Int} (h : RangeN w b r xs ys) (hb : Below w.heap.size w w') : w'.rangeLeft b r = w.rangeLeft b r := h.left_kept (grownBy_of_below hb) (by simp) (by simp)

section
variable (w : World) {ops : Array Oper} {rest : List Oper} {o : Oper} {a : Act} {Q : Exit → Act → World → Prop}
/-- A number is put into a set. -/
theorem wp_setPut (hg : o.guard = none) (m x v : Operand) (hop : o.op = Op.mapUpdate 170 m x v) (b : Nat) (xs : List Int) (z : Int) (hm : a.eval m = .map (some b)) (h : SetN w b xs)
    (hx : a.eval x = .int .i64 z) (hz : -9223372036854775808 ≤ z ∧ z ≤ 9223372036854775807) (hv : a.eval v = .agg #[]) (hl : xs.length ≤ 1099511627776)
    (hK : ∀ w', SetN w' b (addD xs z) → w.grownBy w' (some b) → wpList Tryd.prog ops Q rest (a.put o.dst undef) w') : wpList Tryd.prog ops Q (o :: rest) a w := by
  obtain ⟨h1, h2, D, h3, h4, h5⟩ := h
  refine wpList_mapUpdate_own _ hg m x v 170 hop 3 172 keyI Tryd.underlying170 (unitElem (H := Unit)) b xs.length D hm h3 (by unfold maxLen; omega) _ _ (.int .i64 z) hx hv (keyOf_z hz) (.agg []) [] unitElem_mk ?_
  intro w' o1 g1
  refine hK w' ⟨nodup_addD h1, fun y hy => ?_, D.put (.int .i64 z) (.agg []), ?_, ?_, ?_⟩ g1
  · unfold addD at hy
    split at hy
    · exact h2 y hy
    · rcases List.mem_append.1 hy with hy | hy
      · exact h2 y hy
      · obtain rfl : y = z := by simpa using hy
        exact hz
  · have e : Maps.size (D.put (.int .i64 z) (.agg [])) = (addD xs z).length := by
      rw [Maps.size_put (h3.tidy keyI), h5 z, h4]
      unfold addD
      by_cases hzx : z ∈ xs <;> simp [hzx]
    rw [← e]
    exact own_tight o1
  · rw [Maps.size_put (h3.tidy keyI), h5 z, h4]
    unfold addD
    by_cases hzx : z ∈ xs <;> simp [hzx]
  · intro y
    by_cases hy : y = z
    · subst hy
      rw [Maps.has_put_same h3.isMap (keyI.key (keyOf_z hz))]
      unfold addD
      by_cases hzx : y ∈ xs <;> simp [hzx]
    · rw [Maps.has_put_other (by simpa using hy), h5 y]
      unfold addD
      by_cases hzx : z ∈ xs <;> simp [hzx, hy]
/-- Whether a number is in a set. -/
theorem wp_setHas (hg : o.guard = none) (m x : Operand) (hop : o.op = Op.lookup 170 m x true) (b : Nat) (xs : List Int) (z : Int) (hm : a.eval m = .map (some b)) (h : SetN w b xs)
    (hx : a.eval x = .int .i64 z) (hz : -9223372036854775808 ≤ z ∧ z ≤ 9223372036854775807)
    (hK : wpList Tryd.prog ops Q rest (a.put o.dst (.tuple #[.agg #[], .bool (decide (z ∈ xs))])) w) : wpList Tryd.prog ops Q (o :: rest) a w := by
  obtain ⟨h1, h2, D, h3, h4, h5⟩ := h
  refine wpList_lookup_own_unit _ hg m x 170 hop 3 172 keyI Tryd.underlying170 (zeroU _) b xs.length D hm h3 _ (.int .i64 z) hx (keyOf_z hz) ?_
  rw [h5 z]
  exact hK
/-- How many numbers a set has. -/
theorem wp_setLen (hg : o.guard = none) (m : Operand) (hop : o.op = Op.call { callee := Callee.builtin Builtin.len, args := #[m], argTypes := #[170] }) (b : Nat) (xs : List Int) (hm : a.eval m = .map (some b)) (h : SetN w b xs)
    (hK : wpList Tryd.prog ops Q rest (a.put o.dst (.int .i64 (xs.length : Int))) w) : wpList Tryd.prog ops Q (o :: rest) a w := by
  obtain ⟨h1, h2, D, h3, h4, h5⟩ := h
  refine wpList_len_own _ hg m 170 hop 3 172 Tryd.underlying170 (unitElem (H := Unit)) b xs.length D hm h3 ?_
  rw [h4]
  exact hK
/-- A range begins. -/
theorem wp_setRange (hg : o.guard = none) (m : Operand) (hop : o.op = Op.range 170 m) (b : Nat) (xs : List Int) (hm : a.eval m = .map (some b)) (h : SetN w b xs)
    (hK : ∀ w', RangeN w' b w.heap.size xs [] → w.grownBy w' none → w'.heap.size = w.heap.size + 1 → wpList Tryd.prog ops Q rest (a.put o.dst (.pointer (some ⟨w.heap.size, 0, none⟩))) w') : wpList Tryd.prog ops Q (o :: rest) a w := by
  obtain ⟨h1, h2, D, h3, h4, h5⟩ := h
  refine wpList_range_own _ hg m 170 hop 3 172 keyI Tryd.underlying170 (unitElem (H := Unit)) b xs.length D hm h3 ?_
  intro w' r1 g1 s1
  exact hK w' ⟨h1, h2, List.nodup_nil, (fun y h => by cases h), D, _, _, r1, h4, h5, fun z => by rw [h5 z]; simp⟩ g1 s1
/-- A range goes on. -/
theorem wp_setNext (hg : o.guard = none) (it : Operand) (hop : o.op = Op.next it false) (b r : Nat) (xs ys : List Int) (hit : a.eval it = .pointer (some ⟨r, 0, none⟩)) (h : RangeN w b r xs ys)
    (hDone : ys.Perm xs → wpList Tryd.prog ops Q rest (a.put o.dst (.tuple #[.bool false])) w)
    (hMore : ∀ (x : Int) (w' : World), x ∈ xs → x ∉ ys → RangeN w' b r xs (ys ++ [x]) → w'.rangeLeft b r < w.rangeLeft b r → w.grownBy w' (some r) →
      (Instr.entry (.pointer (some ⟨r, 0, none⟩))).run Tryd.prog w' = .ok (.tuple #[.int .i64 x, .agg #[]]) w' → wpList Tryd.prog ops Q rest (a.put o.dst (.tuple #[.bool true, .int .i64 x, .agg #[]])) w') : wpList Tryd.prog ops Q (o :: rest) a w := by
  obtain ⟨h1, h2, h3, h4, D, left, cnt, h5, h6, h7, h8⟩ := h
  refine wpList_next_ranges (α := Int) (β := Unit) _ hg it hop 3 keyI (unitElem (H := Unit)) (Value.int .i64) (fun _ => .agg #[]) (fun key kl hk => by obtain ⟨x, rfl, _⟩ := Maps.keyOf_int_inv Tryd.underlying3 hk; exact ⟨x, rfl⟩) (fun v y hv => ⟨(), (unitElem_inv hv).1⟩) b r xs.length D left cnt hit h5 ?_ ?_
  · intro hc hl0
    refine hDone ((List.perm_ext_iff_of_nodup h3 h1).2 fun z => ⟨fun hz => h4 z hz, fun hz => ?_⟩)
    have := h8 z
    rw [hl0] at this
    simp [hz] at this
    exact this
  · intro x c kl y w' cnt' hkey hlk hv hat hrg hlt hgr hsz hen
    obtain ⟨x', ex, rfl, hwx⟩ := Maps.keyOf_int_inv Tryd.underlying3 hkey
    cases ex
    have hx := h8 x
    rw [hlk] at hx
    simp only [Bool.true_eq, Bool.and_eq_true, decide_eq_true_eq, Bool.not_eq_true', decide_eq_false_iff_not] at hx
    refine hMore x w' hx.1 hx.2 ⟨h1, h2, ?_, ?_, D, _, cnt', hrg, h6, h7, fun z => ?_⟩ (by rw [hrg.left_eq, h5.left_eq]; exact hlt) hgr hen
    · refine List.nodup_append.2 ⟨h3, by simp, fun p hp q hq => ?_⟩
      obtain rfl : q = x := by simpa using hq
      intro e
      exact hx.2 (e ▸ hp)
    · intro z hz
      rcases List.mem_append.1 hz with hz | hz
      · exact h4 z hz
      · obtain rfl : z = x := by simpa using hz
        exact hx.1
    · rw [h8 z]
      by_cases hzx : z = x
      · subst hzx
        have : (Lit.int .i64 z).sameKey (.int .i64 z) = true := WideAt.sameKey_self (keyI.key hkey)
        simp [this]
      · have : (Lit.int .i64 z).sameKey (.int .i64 x) = false := Maps.sameKey_ne (by simpa using hzx)
        simp [this, hzx]
end
end Go.Proofs.YthndkkjgjhgdnaaDoor
namespace Go.Proofs.YthndkkjgjhgdnaaDoor
open Go.ChangeShapes Go.WideShapes Go.ChangeAt Go.RowKit
set_option linter.unusedVariables false

/-- Each number of a list once. -/
def dedL (xs : List Int) : List Int := xs.foldl addD []
theorem dedL_take (xs : List Int) (k : Nat) (h : k < xs.length) : dedL (xs.take (k + 1)) = addD (dedL (xs.take k)) xs[k] := by
  rw [dedL, List.take_succ_eq_append_getElem h, List.foldl_append]
  rfl
theorem dedL_len (xs : List Int) (k : Nat) (h : k ≤ xs.length) : (dedL (xs.take k)).length ≤ k := by
  induction k with
  | zero => simp [dedL]
  | succ n ih =>
    rw [dedL_take xs n (by omega)]
    have := addD_len (dedL (xs.take n)) xs[n]
    have := ih (by omega)
    omega
theorem foldl_addD_new (xs : List Int) : ∀ acc : List Int, xs.Nodup → (∀ x ∈ xs, x ∉ acc) → xs.foldl addD acc = acc ++ xs := by
  induction xs with
  | nil => intro acc _ _; simp
  | cons a l ih =>
    intro acc hn hd
    have ha : addD acc a = acc ++ [a] := by
      unfold addD
      rw [if_neg (by simpa using hd a (by simp))]
    rw [List.foldl_cons, ha, ih _ (List.nodup_cons.1 hn).2 (fun x hx => by
      have h1 := hd x (by simp [hx])
      have h2 : x ≠ a := fun e => (List.nodup_cons.1 hn).1 (e ▸ hx)
      simp [h1, h2])]
    simp
theorem dedL_nodup {xs : List Int} (h : xs.Nodup) : dedL xs = xs := by
  have := foldl_addD_new xs [] h (fun x _ => by simp)
  simpa [dedL] using this
end Go.Proofs.YthndkkjgjhgdnaaDoor
namespace Go.Proofs.YthndkkjgjhgdnaaDoor
open Go.ChangeShapes Go.WideShapes Go.ChangeAt Go.RowKit
set_option linter.unusedVariables false

theorem lessL_snoc_yes {ms ys : List Int} {x : Int} (h : x ∈ ys) : lessL (ms ++ [x]) ys = lessL ms ys := by simp [lessL, List.filter_append, h]
theorem lessL_snoc_no {ms ys : List Int} {x : Int} (h : ¬ x ∈ ys) (hm : ¬ x ∈ ms) : lessL (ms ++ [x]) ys = addD (lessL ms ys) x := by
  have hn : ¬ x ∈ lessL ms ys := fun hx => hm (List.mem_filter.1 hx).1
  unfold addD
  rw [if_neg (by simpa using hn)]
  simp [lessL, List.filter_append, h]
theorem domsOf_snoc (ds ms : List Int) (x : Int) : domsOf ds (ms ++ [x]) = addD (domsOf ds ms) (domAt ds x) := by
  rw [domsOf, List.map_append, List.foldl_append]
  rfl
theorem domsOf_perm {ds ms xs : List Int} (h : ms.Perm xs) : (domsOf ds ms).Perm (domsOf ds xs) :=
  (List.perm_ext_iff_of_nodup (domsOf_nodup _ _) (domsOf_nodup _ _)).2 fun d => by simp only [mem_domsOf, h.mem_iff]
theorem domsOf_le (ds xs : List Int) : (domsOf ds xs).length ≤ xs.length := by
  have := domsOf_len ds xs xs.length (Nat.le_refl _)
  rwa [List.take_length] at this
end Go.Proofs.YthndkkjgjhgdnaaDoor
namespace Go.Proofs.YthndkkjgjhgdnaaDoor
open Go.ChangeShapes Go.WideShapes Go.ChangeAt Go.RowKit
set_option linter.unusedVariables false

set_option maxHeartbeats 2000000 in
theorem implCfg_any (sv : Value) (ds : List Int) (cop : Int) (w : World) (hv : Ns w sv ds) (ha : allInt ds) (hl : ds.length ≤ 1048576) (c0 : -9223372036854775808 ≤ cop) (c1 : cop ≤ 9223372036854775807) :
    Calls Tryd.prog 44 #[.agg #[sv, .int .i64 cop]] w fun e w' => RetB (cfgP ds cop) e ∧ Below w.heap.size w w' := by
  obtain ⟨h0, a, cap, rfl, -, hv⟩ := hv
  have HV := dHide hv
  clear hv ha
  have hb0 : ∀ o, Below w.heap.size w (w.alloc o) := fun o => (Below.refl _ _).alloc (Nat.le_refl _) o
  by_cases h1 : (ds.length : Int) < 1
  · have hno : Hid (¬ cfgP ds cop) := fun h => by have := h.1; omega
    have hd : decide ((ds.length : Int) < 1) = true := decide_eq_true h1
    clear h1 HV
    go_enter Tryd.func44, Tryd.ntmps44
    go_wp2
    go_ret
    exact ⟨RetB.no (dUnhide hno), hb0 _⟩
  · have hd : decide ((ds.length : Int) < 1) = false := decide_eq_false h1
    by_cases h2 : (8 : Int) < (ds.length : Int)
    · have hno : Hid (¬ cfgP ds cop) := fun h => by have := h.1; omega
      have hd2 : decide ((8 : Int) < (ds.length : Int)) = true := decide_eq_true h2
      clear h1 HV
      go_enter Tryd.func44, Tryd.ntmps44
      go_wp2
      go_ret
      exact ⟨RetB.no (dUnhide hno), hb0 _⟩
    · have hd2 : decide ((8 : Int) < (ds.length : Int)) = false := decide_eq_false h2
      go_enter Tryd.func44, Tryd.ntmps44
      go_wp2
      go_loopw [18] (fun x wr => ∃ k : Nat, x = .int .i64 (k : Int) ∧ k ≤ ds.length ∧ Hid (∀ i (h : i < ds.length), i < k → 0 ≤ ds[i] ∧ ds[i] ≤ 7) ∧ wr.cell? ⟨w.heap.size, 1, none⟩ = some (.int .i64 cop) ∧ Below w.heap.size w wr) (fun x _ => ds.length - (intOf x).toNat)
      case atStart => exact ⟨0, rfl, Nat.zero_le _, (fun i h h' => by omega), by simp, hb0 _⟩
      case round =>
        obtain ⟨k, rfl, hk, hinv, hbx, hb⟩ := hrel
        by_cases hlt : (k : Int) < (ds.length : Int)
        · obtain ⟨b, off, rfl, hc⟩ : ∃ b off, a = some ⟨b, off, none⟩ ∧ ∀ i (h : i < ds.length), w.cell? ⟨b, off + i, none⟩ = some (.int .i64 ds[i]) := orN_of_lt (dUnhide HV) (k := k) (by omega)
          have hkl : k < ds.length := by omega
          have e1 : wr.cell? ⟨b, off + k, none⟩ = some (.int .i64 ds[k]) := (hb.cell (p := ⟨b, off + k, none⟩) (dCell_lt (hc k hkl))).trans (hc k hkl)
          obtain ⟨x, hx⟩ : ∃ x, ds[k] = x := ⟨_, rfl⟩
          have HX := dHide hx
          rw [hx] at e1
          clear hx hc
          by_cases hin : x < 0
          · have hno : Hid (¬ cfgP ds cop) := fun h => by
              have := h.2.2 k hkl
              rw [dUnhide HX] at this
              omega
            have hd3 : decide (x < 0) = true := decide_eq_true hin
            clear hin hinv HX HV h1 h2
            go_wp2
            go_ret
            exact ⟨RetB.no (dUnhide hno), hb⟩
          · have hd3 : decide (x < 0) = false := decide_eq_false hin
            by_cases hin2 : 7 < x
            · have hno : Hid (¬ cfgP ds cop) := fun h => by
                have := h.2.2 k hkl
                rw [dUnhide HX] at this
                omega
              have hd4 : decide (7 < x) = true := decide_eq_true hin2
              clear hin hin2 hinv HX HV h1 h2
              go_wp2
              go_ret
              exact ⟨RetB.no (dUnhide hno), hb⟩
            · have hd4 : decide (7 < x) = false := decide_eq_false hin2
              have hst : Hid (∀ i (h : i < ds.length), i < k + 1 → 0 ≤ ds[i] ∧ ds[i] ≤ 7) := fun i h h' => by
                rcases Nat.lt_or_ge i k with hlt' | hge
                · exact dUnhide hinv i h hlt'
                · obtain rfl : i = k := by omega
                  rw [dUnhide HX]
                  omega
              clear hin hin2 hinv HX HV h1 h2
              go_wp2
              go_roundw
              case rel => exact ⟨k + 1, by go_num, by omega, hst, hbx, hb⟩
              case measure => simp [intOf]; omega
        · have hall : Hid (∀ i (h : i < ds.length), 0 ≤ ds[i] ∧ ds[i] ≤ 7) := fun i h => dUnhide hinv i h (by omega)
          by_cases h3 : 1 ≤ cop
          · have hd3 : decide (1 ≤ cop) = true := decide_eq_true h3
            have R : RetB (cfgP ds cop) (.returned (.bool (decide (cop ≤ 4)))) := ⟨_, rfl, fun h => ⟨by omega, ⟨h3, of_decide_eq_true h⟩, dUnhide hall⟩, fun h => decide_eq_true h.2.1.2⟩
            clear hinv HV hall h1 h2
            go_wp2
            go_ret
            exact ⟨R, hb⟩
          · have hd3 : decide (1 ≤ cop) = false := decide_eq_false h3
            have R : RetB (cfgP ds cop) (.returned (.bool false)) := RetB.no fun h => h3 h.2.1.1
            clear hinv HV hall h1 h2
            go_wp2
            go_ret
            exact ⟨R, hb⟩
end Go.Proofs.YthndkkjgjhgdnaaDoor
namespace Go.Proofs.YthndkkjgjhgdnaaDoor
open Go.ChangeShapes Go.WideShapes Go.ChangeAt Go.RowKit
set_option linter.unusedVariables false

/-- How many numbers a set has, as a step of a region that draws. -/
theorem step_setLen {ops : Array Oper} {o : Oper} {a : Act} {w : World} {K : Act → World → Prop} {Q : Exit → Act → World → Prop} {E : Prop}
    (hg : o.guard = none) (m : Operand) (hop : o.op = .call { callee := .builtin .len, args := #[m], argTypes := #[170] })
    (b : Nat) (xs : List Int) (hm : a.eval m = .map (some b)) (h : SetN w b xs) (hK : K (a.put o.dst (.int .i64 (xs.length : Int))) w) :
    if Region.wanted o (yielded ops a.tmps) = true then Oper.wp Tryd.prog o a w K Q else E := by
  have hw : Region.wanted o (yielded ops a.tmps) = true := by simp [Region.wanted, hg]
  rw [if_pos hw]
  obtain ⟨h1, h2, D, h3, h4, h5⟩ := h
  have hr := h3.len Tryd.underlying170 o.type
  rw [h4] at hr
  unfold Oper.wp
  simp [execOp, hop, resolve, invoke, builtin, hm, hr, Result.andThen]
  exact hK
theorem nodes_asc {ds xs : List Int} {cop : Int} (h : nodesP ds cop xs) : xs.Pairwise (· < ·) := ((ascP_iff _ _ _).1 h.2).1
theorem nodup_of_asc {xs : List Int} (h : xs.Pairwise (· < ·)) : xs.Nodup := h.imp fun {a b} h e => by omega
theorem dedL_nodes {ds xs : List Int} {cop : Int} (h : nodesP ds cop xs) : dedL xs = xs := dedL_nodup (nodup_of_asc (nodes_asc h))
end Go.Proofs.YthndkkjgjhgdnaaDoor
namespace Go.Proofs.YthndkkjgjhgdnaaDoor
open Go.ChangeShapes Go.WideShapes Go.ChangeAt Go.RowKit
set_option linter.unusedVariables false

end Go.Proofs.YthndkkjgjhgdnaaDoor
