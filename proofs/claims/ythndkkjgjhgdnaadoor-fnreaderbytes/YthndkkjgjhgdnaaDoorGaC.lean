/- Several texts in one: InP, DomA, DomB, DomC, DomD, DomE, DomF, DomG. -/
import Derived.Test.YthndkkjgjhgdnaaDoorGaA
import Derived.Laws.MakeOwn
import Derived.Laws.AppendOwn
import Derived.OwnWalk
import Derived.Deep.RegionHeld3
namespace Go.Proofs.YthndkkjgjhgdnaaDoor
open Go.ChangeShapes Go.WideShapes Go.ChangeAt Go.RowKit
set_option linter.unusedVariables false

theorem l1In_yes (x lo hi : Int) (h1 : lo ≤ x) (h2 : x ≤ hi) (w : World) :
    Calls Tryd.prog 47 #[.int .i64 x, .int .i64 lo, .int .i64 hi] w fun e w' => e = .returned (.bool true) ∧ w' = w := by
  go_enter Tryd.func47, Tryd.ntmps47
  go_wp2
  go_ret
  exact ⟨rfl, rfl⟩
theorem l1In_no (x lo hi : Int) (h : x < lo ∨ hi < x) (w : World) :
    Calls Tryd.prog 47 #[.int .i64 x, .int .i64 lo, .int .i64 hi] w fun e w' => e = .returned (.bool false) ∧ w' = w := by
  by_cases h1 : x < lo
  · go_enter Tryd.func47, Tryd.ntmps47
    go_wp2
    go_ret
    exact ⟨rfl, rfl⟩
  · have h2 : decide (x ≤ hi) = false := decide_eq_false (by omega)
    clear h
    go_enter Tryd.func47, Tryd.ntmps47
    go_wp2
    go_ret
    exact ⟨rfl, rfl⟩
theorem flip {P : Program} {f : FuncId} {args : Array Value} {w : World} {v : Value} (h : Calls P f args w fun e w' => e = .returned v ∧ w = w') : Calls P f args w fun e w' => e = .returned v ∧ w' = w :=
  h.mono fun _ _ ⟨a, b⟩ => ⟨a, b.symm⟩
end Go.Proofs.YthndkkjgjhgdnaaDoor
namespace Go.Proofs.YthndkkjgjhgdnaaDoor
open Go.ChangeShapes Go.WideShapes Go.ChangeAt Go.RowKit
set_option linter.unusedVariables false

/-- Ascending numbers from lo to hi. -/
def ascP (xs : List Int) (lo hi : Int) : Prop := ∀ i (h : i < xs.length), lo ≤ xs[i] ∧ xs[i] ≤ hi ∧ ∀ (h' : 0 < i), xs[i - 1]'(by omega) < xs[i]
/-- A config that is right. -/
def cfgP (ds : List Int) (cop : Int) : Prop := (1 ≤ ds.length ∧ ds.length ≤ 8) ∧ (1 ≤ cop ∧ cop ≤ 4) ∧ ∀ i (h : i < ds.length), 0 ≤ ds[i] ∧ ds[i] ≤ 7
set_option maxHeartbeats 2000000 in
theorem specCfg_any (sv : Value) (ds : List Int) (cop : Int) (w : World) (hv : Ns w sv ds) :
    Calls Tryd.prog 24 #[.agg #[sv, .int .i64 cop]] w fun e w' => RetB (cfgP ds cop) e ∧ Below w.heap.size w w' := by
  obtain ⟨h0, a, cap, rfl, -, hv⟩ := hv
  have HV := dHide hv
  clear hv
  have hb0 : ∀ o, Below w.heap.size w (w.alloc o) := fun o => (Below.refl _ _).alloc (Nat.le_refl _) o
  by_cases h1 : 1 ≤ ds.length ∧ ds.length ≤ 8
  · have CL := dHide fun W => l1In_yes (ds.length : Int) 1 8 (by omega) (by omega) W
    by_cases h2 : 1 ≤ cop ∧ cop ≤ 4
    · have CC := dHide fun W => l1In_yes cop 1 4 (by omega) (by omega) W
      have hl := h1.2
      go_enter Tryd.func24, Tryd.ntmps24
      go_wp2_with (first | (go_at_call_of 47 cop; refine (dUnhide CC _).mono ?_; rintro e w' ⟨rfl, rfl⟩) | (go_at_call 47; refine (dUnhide CL _).mono ?_; rintro e w' ⟨rfl, rfl⟩))
      go_loopw [3] (fun x wr => ∃ k : Nat, x = .int .i64 (k : Int) ∧ k ≤ ds.length ∧ Hid (∀ i (h : i < ds.length), i < k → 0 ≤ ds[i] ∧ ds[i] ≤ 7) ∧ wr.cell? ⟨w.heap.size, 0, none⟩ = some (.slice a ds.length cap) ∧ Below w.heap.size w wr) (fun x _ => ds.length - (intOf x).toNat)
      case atStart => exact ⟨0, rfl, Nat.zero_le _, fun i h h' => by omega, by simp, hb0 _⟩
      case round =>
        obtain ⟨k, rfl, hk, hinv, hbx, hb⟩ := hrel
        by_cases hlt : (k : Int) < (ds.length : Int)
        · obtain ⟨b, off, rfl, hc⟩ : ∃ b off, a = some ⟨b, off, none⟩ ∧ ∀ i (h : i < ds.length), w.cell? ⟨b, off + i, none⟩ = some (.int .i64 ds[i]) := orN_of_lt (dUnhide HV) (k := k) (by omega)
          have hkl : k < ds.length := by omega
          have c1 : wr.cell? ⟨b, off + k, none⟩ = some (.int .i64 ds[k]) := (hb.cell (p := ⟨b, off + k, none⟩) (dCell_lt (hc k hkl))).trans (hc k hkl)
          obtain ⟨x, hx⟩ : ∃ x, ds[k] = x := ⟨_, rfl⟩
          have HX := dHide hx
          rw [hx] at c1
          clear hx hc
          by_cases hin : x < 0 ∨ 7 < x
          · have CI := dHide fun W => l1In_no x 0 7 hin W
            have hno : Hid (¬ cfgP ds cop) := fun h => by
              have := h.2.2 k hkl
              rw [dUnhide HX] at this
              omega
            clear hin hinv HX HV
            go_wp2_with (go_at_call 47; refine (dUnhide CI _).mono ?_; rintro e w' ⟨rfl, rfl⟩)
            go_ret
            exact ⟨RetB.no (dUnhide hno), hb⟩
          · have CI := dHide fun W => l1In_yes x 0 7 (by omega) (by omega) W
            have hst : Hid (∀ i (h : i < ds.length), i < k + 1 → 0 ≤ ds[i] ∧ ds[i] ≤ 7) := fun i h h' => by
              rcases Nat.lt_or_ge i k with hlt' | hge
              · exact dUnhide hinv i h hlt'
              · obtain rfl : i = k := by omega
                rw [dUnhide HX]
                omega
            clear hin hinv HX HV
            go_wp2_with (go_at_call 47; refine (dUnhide CI _).mono ?_; rintro e w' ⟨rfl, rfl⟩)
            go_roundw
            case rel => exact ⟨k + 1, by go_num, by omega, hst, hbx, hb⟩
            case measure => simp [intOf]; omega
        · have hyes : Hid (cfgP ds cop) := ⟨h1, h2, fun i h => dUnhide hinv i h (by omega)⟩
          clear hinv HV
          go_wp2
          go_ret
          exact ⟨RetB.yes (dUnhide hyes), hb⟩
    · have CC := dHide fun W => l1In_no cop 1 4 (by omega) W
      have hno : Hid (¬ cfgP ds cop) := fun h => h2 h.2.1
      clear h2 HV
      go_enter Tryd.func24, Tryd.ntmps24
      go_wp2_with (first | (go_at_call_of 47 cop; refine (dUnhide CC _).mono ?_; rintro e w' ⟨rfl, rfl⟩) | (go_at_call 47; refine (dUnhide CL _).mono ?_; rintro e w' ⟨rfl, rfl⟩))
      go_ret
      exact ⟨RetB.no (dUnhide hno), hb0 _⟩
  · have CL := dHide fun W => l1In_no (ds.length : Int) 1 8 (by omega) W
    have hno : Hid (¬ cfgP ds cop) := fun h => h1 h.1
    clear h1 HV
    go_enter Tryd.func24, Tryd.ntmps24
    go_wp2_with (go_at_call 47; refine (dUnhide CL _).mono ?_; rintro e w' ⟨rfl, rfl⟩)
    go_ret
    exact ⟨RetB.no (dUnhide hno), hb0 _⟩
end Go.Proofs.YthndkkjgjhgdnaaDoor
namespace Go.Proofs.YthndkkjgjhgdnaaDoor
open Go.ChangeShapes Go.WideShapes Go.ChangeAt Go.RowKit
set_option linter.unusedVariables false

/-- Nodes that are right. -/
def nodesP (ds : List Int) (cop : Int) (xs : List Int) : Prop := cfgP ds cop ∧ ascP xs 0 ((ds.length : Int) - 1)
theorem infoI : (Tryd.prog.info? 3).map (fun i => (i.zero, i.size, i.bytes)) = some (some (.int .i64 0), 1, 8) := by kernel_rfl
theorem ncells_one (l : List Int) : ∀ u ∈ ncells l, u.oneCell' = true := by
  intro u hu
  simp only [ncells, List.mem_map] at hu
  obtain ⟨c, -, rfl⟩ := hu
  rfl
/-- The kit's law on append, for ints. -/
theorem appN {ops : Array Oper} {rest : List Oper} {o : Oper} {a : Act} {Q : Exit → Act → World → Prop} (w : World) (hgd : o.guard = none) (s x : Operand)
    (ho : o.op = .call { callee := .builtin .append, args := #[s, x], argTypes := #[24, 24] })
    (base : Nat) (v : Value) (bs : List Int) (hs : a.eval s = v) (hown : w.ownsRow base 3 1 v bs.length (ncells bs))
    (ad : Addr) (m c : Nat) (cs : List Int) (hx : a.eval x = .slice (some ad) m c) (hl : cs.length = m) (hnews : ∀ j u, (ncells cs)[j]? = some u → w.cell? (ad.add j) = some u)
    (hb : bs.length + cs.length ≤ 1099511627776) (hbase : base ≤ w.heap.size)
    (h : ∀ v' w', w'.ownsRow base 3 1 v' (bs ++ cs).length (ncells (bs ++ cs)) → w.grownBy w' v.ownBlock → wpList Tryd.prog ops Q rest (a.put o.dst v') w') : wpList Tryd.prog ops Q (o :: rest) a w := by
  obtain ⟨i0, hi, hz0, hz1, hz2⟩ := info_parts infoI
  subst hl
  have hm : maxLen = 9223372036854775807 := rfl
  refine wpList_append_own _ hgd s x 24 ho base 3 i0 (.int .i64 0) 1 8 Tryd.underlying24 hi hz0 hz1 hz2 rfl (by decide) v bs.length (ncells bs) hs hown ad cs.length c (ncells cs) hx (by simp [ncells]) hnews (ncells_one _) (by omega) (by omega) hbase ?_
  intro v' w' h1 h2 _
  refine h v' w' ?_ h2
  have e : ncells (bs ++ cs) = ncells bs ++ ncells cs := by simp [ncells]
  rw [e, List.length_append]; exact h1
/-- A block of one int. -/
theorem one_int (w : World) (c : Int) (T : TypeId) : ∀ j u, (ncells [c])[j]? = some u → (w.alloc (.cells #[.int .i64 c] T)).cell? ((⟨w.heap.size, 0, none⟩ : Addr).add j) = some u := by
  intro j u hj
  match j, hj with
  | 0, hj => simp [ncells] at hj; subst hj; simp [Addr.add]
end Go.Proofs.YthndkkjgjhgdnaaDoor
namespace Go.Proofs.YthndkkjgjhgdnaaDoor
open Go.ChangeShapes Go.WideShapes Go.ChangeAt Go.RowKit
set_option linter.unusedVariables false

/-- Those of a list that are not in another one. -/
def lessL (set list : List Int) : List Int := set.filter fun x => !(list.contains x)
theorem lessL_yes (set list : List Int) (k : Nat) (h : k < set.length) (hx : set[k] ∈ list) : lessL (set.take (k + 1)) list = lessL (set.take k) list := by
  have e : (!(list.contains set[k])) = false := by simpa using hx
  rw [lessL, List.take_succ_eq_append_getElem h, List.filter_append]
  simp only [List.filter_cons, List.filter_nil, e]
  simp [lessL]
theorem lessL_no (set list : List Int) (k : Nat) (h : k < set.length) (hx : ¬ set[k] ∈ list) : lessL (set.take (k + 1)) list = lessL (set.take k) list ++ [set[k]] := by
  have e : (!(list.contains set[k])) = true := by simpa using hx
  rw [lessL, List.take_succ_eq_append_getElem h, List.filter_append]
  simp only [List.filter_cons, List.filter_nil, e]
  simp [lessL]
theorem lessL_len (set list : List Int) : (lessL set list).length ≤ set.length := List.length_filter_le _ _
theorem own_lenN {w : World} {B n : Nat} {v : Value} {l : List Int} (h : w.ownsRow B 3 1 v n (ncells l)) : w.ownsRow B 3 1 v l.length (ncells l) := by
  have e : l.length = n := by have := h.1; simpa [ncells] using this
  rw [e]; exact h
end Go.Proofs.YthndkkjgjhgdnaaDoor
namespace Go.Proofs.YthndkkjgjhgdnaaDoor
open Go.ChangeShapes Go.WideShapes Go.ChangeAt Go.RowKit
set_option linter.unusedVariables false

/-- The domain of node i. -/
def domAt (ds : List Int) (i : Int) : Int := ds.getD i.toNat 0
/-- A number behind others, if it is new. -/
def addD (acc : List Int) (d : Int) : List Int := if acc.contains d then acc else acc ++ [d]
/-- The domains of nodes, each once. -/
def domsOf (ds xs : List Int) : List Int := (xs.map (domAt ds)).foldl addD []
/-- Of how many domains nodes are. -/
def spanN (ds xs : List Int) : Nat := (domsOf ds xs).length
theorem domsOf_take (ds xs : List Int) (k : Nat) (h : k < xs.length) : domsOf ds (xs.take (k + 1)) = addD (domsOf ds (xs.take k)) (domAt ds xs[k]) := by
  rw [domsOf, List.take_succ_eq_append_getElem h, List.map_append, List.foldl_append]
  rfl
theorem addD_len (acc : List Int) (d : Int) : (addD acc d).length ≤ acc.length + 1 := by
  unfold addD
  split
  · omega
  · simp
theorem domsOf_len (ds xs : List Int) (k : Nat) (h : k ≤ xs.length) : (domsOf ds (xs.take k)).length ≤ k := by
  induction k with
  | zero => simp [domsOf]
  | succ n ih =>
    rw [domsOf_take ds xs n (by omega)]
    have := addD_len (domsOf ds (xs.take n)) (domAt ds xs[n])
    have := ih (by omega)
    omega
/-- Eight flags in block g: which numbers are in a list. -/
def Seen (w : World) (g : Nat) (acc : List Int) : Prop := ∀ j : Nat, j < 8 → w.cell? ⟨g, j, none⟩ = some (.bool (acc.contains (j : Int))) ∧ w.frozen? ⟨g, j, none⟩ = false
theorem Seen.step {w : World} {g : Nat} {acc : List Int} (h : Seen w g acc) (d : Nat) (hd : acc.contains (d : Int) = false) : Seen (w.setCell ⟨g, d, none⟩ (.bool true)) g (addD acc (d : Int)) := by
  intro j hj
  obtain ⟨h1, h2⟩ := h j hj
  refine ⟨?_, (World.frozen?_setCell _ _ _ _).trans h2⟩
  have e : addD acc (d : Int) = acc ++ [(d : Int)] := by rw [addD, hd]; rfl
  rw [e]
  by_cases hjd : j = d
  · subst hjd
    rw [World.cell?_setCell_same _ _ _ h1]
    simp
  · rw [set_other h1 (by omega)]
    have hne : ¬ ((j : Int) = (d : Int)) := by omega
    simp [hne]
theorem infoB : (Tryd.prog.info? 4).map (fun i => (i.zero, i.size, i.bytes)) = some (some (.bool false), 1, 1) := by kernel_rfl
/-- Eight flags that are off. -/
def flags8 : Array Value := madeCells (Value.bool false).cells 8
theorem flags8_at (j : Nat) (h : j < 8) : flags8[j]? = some (.bool false) := by
  simp [flags8, madeCells, h, Nat.mod_one, Value.cells]
theorem Seen.new (w : World) (T : TypeId) : Seen (w.alloc (.cells flags8 T)) w.heap.size [] := by
  intro j hj
  have := MapKept.heap_alloc w (.cells flags8 T)
  refine ⟨?_, ?_⟩
  · simp only [World.cell?, this.1]
    simpa using flags8_at j hj
  · simp only [World.frozen?, this.1]
    simp
theorem Seen.below {w w' : World} {g : Nat} {acc : List Int} (h : Seen w g acc) (hb : Below w.heap.size w w') : Seen w' g acc := fun j hj => by
  obtain ⟨h1, h2⟩ := h j hj
  have lt := dCell_lt h1
  exact ⟨(hb.cell (p := ⟨g, j, none⟩) lt).trans h1, (hb.frozen (p := ⟨g, j, none⟩) lt).trans h2⟩
/-- Nodes of a config that is right, in whatever order. -/
def inP (ds : List Int) (cop : Int) (xs : List Int) : Prop := cfgP ds cop ∧ ∀ i (h : i < xs.length), 0 ≤ xs[i] ∧ xs[i] ≤ (ds.length : Int) - 1
theorem inP_of {ds : List Int} {cop : Int} {xs : List Int} (h : nodesP ds cop xs) : inP ds cop xs := ⟨h.1, fun i hi => ⟨(h.2 i hi).1, (h.2 i hi).2.1⟩⟩
theorem domAt_in' {ds : List Int} {cop : Int} {xs : List Int} (h : inP ds cop xs) (k : Nat) (hk : k < xs.length) :
    ∃ i d : Nat, xs[k] = (i : Int) ∧ ∃ hi : i < ds.length, ds[i] = (d : Int) ∧ d < 8 ∧ domAt ds xs[k] = (d : Int) := by
  obtain ⟨a1, a2⟩ := h.2 k hk
  obtain ⟨i, hi⟩ := Int.eq_ofNat_of_zero_le a1
  have hil : i < ds.length := by omega
  obtain ⟨b1, b2⟩ := h.1.2.2 i hil
  obtain ⟨d, hd⟩ := Int.eq_ofNat_of_zero_le b1
  refine ⟨i, d, hi, hil, hd, by omega, ?_⟩
  rw [domAt, hi, Int.toNat_natCast]
  simp [List.getD, hil, hd]
theorem domAt_in {ds : List Int} {cop : Int} {xs : List Int} (h : nodesP ds cop xs) (k : Nat) (hk : k < xs.length) :
    ∃ i d : Nat, xs[k] = (i : Int) ∧ ∃ hi : i < ds.length, ds[i] = (d : Int) ∧ d < 8 ∧ domAt ds xs[k] = (d : Int) := domAt_in' (inP_of h) k hk
end Go.Proofs.YthndkkjgjhgdnaaDoor
namespace Go.Proofs.YthndkkjgjhgdnaaDoor
open Go.ChangeShapes Go.WideShapes Go.ChangeAt Go.RowKit
set_option linter.unusedVariables false

/-- Two cells of a block. -/
def Two (w : World) (b : Nat) (c0 c1 : Value) : Prop := w.cell? ⟨b, 0, none⟩ = some c0 ∧ w.cell? ⟨b, 1, none⟩ = some c1
theorem Two.kept {w w' : World} {b : Nat} {c0 c1 : Value} (h : Two w b c0 c1) (hb : Below w.heap.size w w') : Two w' b c0 c1 := by
  have lt := dCell_lt h.1
  exact ⟨(hb.cell (p := ⟨b, 0, none⟩) lt).trans h.1, (hb.cell (p := ⟨b, 1, none⟩) lt).trans h.2⟩
theorem Two.new (w : World) (c0 c1 : Value) (T : TypeId) : Two (w.alloc (.cells #[c0, c1] T)) w.heap.size c0 c1 := ⟨by simp, by simp⟩
end Go.Proofs.YthndkkjgjhgdnaaDoor
namespace Go.Proofs.YthndkkjgjhgdnaaDoor
open Go.ChangeShapes Go.WideShapes Go.ChangeAt Go.RowKit
set_option linter.unusedVariables false

theorem ownN_none (w : World) (T : TypeId) (base : Nat) (hb : base ≤ w.heap.size) : OwnN (w.alloc (.cells #[] T)) base (.slice (some ⟨w.heap.size, 0, none⟩) 0 0) [] := ⟨by simp, _, _, rfl, by simp, .inl rfl⟩
/-- What holds. -/
def holdsP (ds : List Int) (cop : Int) (xs : List Int) : Prop := nodesP ds cop xs ∧ cop ≤ (spanN ds xs : Int)
end Go.Proofs.YthndkkjgjhgdnaaDoor
namespace Go.Proofs.YthndkkjgjhgdnaaDoor
open Go.ChangeShapes Go.WideShapes Go.ChangeAt Go.RowKit
set_option linter.unusedVariables false

theorem ascP_lt {xs : List Int} {lo hi : Int} (h : ascP xs lo hi) : ∀ j i (hj : j < xs.length) (hij : i < j), xs[i]'(by omega) < xs[j] := by
  intro j
  induction j with
  | zero => intro i hj hij; omega
  | succ n ih =>
    intro i hj hij
    have h1 := (h (n + 1) hj).2.2 (by omega)
    simp only [Nat.add_sub_cancel] at h1
    rcases Nat.lt_or_ge i n with hlt | hge
    · have := ih i (by omega) hlt
      omega
    · obtain rfl : i = n := by omega
      exact h1
theorem ascP_iff (xs : List Int) (lo hi : Int) : ascP xs lo hi ↔ xs.Pairwise (· < ·) ∧ ∀ x ∈ xs, lo ≤ x ∧ x ≤ hi := by
  constructor
  · intro h
    refine ⟨List.pairwise_iff_getElem.2 fun i j hi' hj hij => ascP_lt h j i hj hij, fun x hx => ?_⟩
    obtain ⟨i, hi', rfl⟩ := List.getElem_of_mem hx
    exact ⟨(h i hi').1, (h i hi').2.1⟩
  · rintro ⟨h1, h2⟩ i hi'
    have hb := h2 xs[i] (List.getElem_mem hi')
    exact ⟨hb.1, hb.2, fun h' => List.pairwise_iff_getElem.1 h1 (i - 1) i (by omega) hi' (by omega)⟩
theorem ascP_filter {xs : List Int} {lo hi : Int} (h : ascP xs lo hi) (f : Int → Bool) : ascP (xs.filter f) lo hi := by
  rw [ascP_iff] at h ⊢
  exact ⟨h.1.filter f, fun x hx => h.2 x (List.mem_filter.1 hx).1⟩
theorem nodesP_less {ds set list : List Int} {cop : Int} (h : nodesP ds cop set) : nodesP ds cop (lessL set list) := ⟨h.1, ascP_filter h.2 _⟩
theorem lessL_nil {set list : List Int} : lessL set list = [] ↔ ∀ x ∈ set, x ∈ list := by
  rw [lessL, List.filter_eq_nil_iff]
  constructor
  · intro h x hx
    have := h x hx
    simpa using this
  · intro h x hx
    have := h x hx
    simp [this]
/-- What is enough. -/
def enoughP (ds : List Int) (cop : Int) (set list : List Int) : Prop := holdsP ds cop set ∧ nodesP ds cop list ∧ lessL list set = [] ∧ (spanN ds (lessL set list) : Int) < cop
end Go.Proofs.YthndkkjgjhgdnaaDoor
