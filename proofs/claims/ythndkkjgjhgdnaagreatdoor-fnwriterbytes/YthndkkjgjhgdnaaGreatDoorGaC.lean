/- Several texts in one: InP, DomA, DomB, DomC, DomD, DomE, DomF, DomG, DomJ. -/
import Derived.Test.YthndkkjgjhgdnaaGreatDoorGaA
import Derived.Laws.MakeOwn
import Derived.Laws.AppendOwn
import Derived.OwnWalk
import Derived.Deep.RegionHeld3
namespace Go.Proofs.YthndkkjgjhgdnaaGreatDoor
open Go.ChangeShapes Go.WideShapes Go.ChangeAt Go.RowKit
set_option linter.unusedVariables false

theorem l1In_yes (x lo hi : Int) (h1 : lo ≤ x) (h2 : x ≤ hi) (w : World) :
    Calls Tryz.prog 54 #[.int .i64 x, .int .i64 lo, .int .i64 hi] w fun e w' => e = .returned (.bool true) ∧ w' = w := by
  go_enter Tryz.func54, Tryz.ntmps54
  go_wp2
  go_ret
  exact ⟨rfl, rfl⟩
theorem l1In_no (x lo hi : Int) (h : x < lo ∨ hi < x) (w : World) :
    Calls Tryz.prog 54 #[.int .i64 x, .int .i64 lo, .int .i64 hi] w fun e w' => e = .returned (.bool false) ∧ w' = w := by
  by_cases h1 : x < lo
  · go_enter Tryz.func54, Tryz.ntmps54
    go_wp2
    go_ret
    exact ⟨rfl, rfl⟩
  · have h2 : decide (x ≤ hi) = false := decide_eq_false (by omega)
    clear h
    go_enter Tryz.func54, Tryz.ntmps54
    go_wp2
    go_ret
    exact ⟨rfl, rfl⟩
theorem flip {P : Program} {f : FuncId} {args : Array Value} {w : World} {v : Value} (h : Calls P f args w fun e w' => e = .returned v ∧ w = w') : Calls P f args w fun e w' => e = .returned v ∧ w' = w :=
  h.mono fun _ _ ⟨a, b⟩ => ⟨a, b.symm⟩
end Go.Proofs.YthndkkjgjhgdnaaGreatDoor
namespace Go.Proofs.YthndkkjgjhgdnaaGreatDoor
open Go.ChangeShapes Go.WideShapes Go.ChangeAt Go.RowKit
set_option linter.unusedVariables false

/-- Ascending numbers from lo to hi. -/
def ascP (xs : List Int) (lo hi : Int) : Prop := ∀ i (h : i < xs.length), lo ≤ xs[i] ∧ xs[i] ≤ hi ∧ ∀ (h' : 0 < i), xs[i - 1]'(by omega) < xs[i]
set_option maxHeartbeats 2000000 in
theorem l4Asc_any (v : Value) (xs : List Int) (lo hi : Int) (w : World) (hv : Ns w v xs) :
    Calls Tryz.prog 111 #[v, .int .i64 lo, .int .i64 hi] w fun e w' => RetB (ascP xs lo hi) e ∧ Drew w w' := by
  obtain ⟨h0, a, cap, rfl, -, hv⟩ := hv
  have HV := dHide hv
  clear hv
  go_enter Tryz.func111, Tryz.ntmps111
  go_wp2
  go_loopw [7] (fun x w' => ∃ k : Nat, x = .int .i64 (k : Int) ∧ k ≤ xs.length ∧ Hid (∀ i (h : i < xs.length), i < k → lo ≤ xs[i] ∧ xs[i] ≤ hi ∧ ∀ (h' : 0 < i), xs[i - 1]'(by omega) < xs[i]) ∧ Drew w w') (fun x _ => xs.length - (intOf x).toNat)
  case atStart => exact ⟨0, rfl, Nat.zero_le _, fun i h h' => by omega, Drew.refl _⟩
  case round =>
    obtain ⟨k, rfl, hk, hinv, hdr⟩ := hrel
    by_cases hlt : (k : Int) < (xs.length : Int)
    · obtain ⟨b, off, rfl, hc⟩ : ∃ b off, a = some ⟨b, off, none⟩ ∧ ∀ i (h : i < xs.length), w.cell? ⟨b, off + i, none⟩ = some (.int .i64 xs[i]) := orN_of_lt (dUnhide HV) (k := k) (by omega)
      have hc : ∀ i (h : i < xs.length), wr.cell? ⟨b, off + i, none⟩ = some (.int .i64 xs[i]) := fun i h => (hdr.cell _).trans (hc i h)
      have hkl : k < xs.length := by omega
      have c1 := hc k hkl
      obtain ⟨x, hx⟩ : ∃ x, xs[k] = x := ⟨_, rfl⟩
      have HX := dHide hx
      rw [hx] at c1
      clear hx
      by_cases hin : x < lo ∨ hi < x
      · have hno : Hid (¬ ascP xs lo hi) := fun h => by
          have := h k hkl
          rw [dUnhide HX] at this
          omega
        have CI := dHide (fun W => l1In_no x lo hi hin W)
        clear hc HV hinv HX hin
        go_wp2
        go_quiet (first | (go_at_call 54; refine Calls.quiet_of_same (dUnhide CI _)))
        go_wp2
        go_ret
        exact ⟨RetB.no (dUnhide hno), hdr.drewN _⟩
      · have i1 : lo ≤ x := by omega
        have i2 : x ≤ hi := by omega
        have CI := dHide (fun W => l1In_yes x lo hi i1 i2 W)
        clear hin
        by_cases hk0 : (0 : Int) < (k : Int)
        · have c2 := hc (k - 1) (by omega)
          obtain ⟨y, hy⟩ : ∃ y, xs[k - 1] = y := ⟨_, rfl⟩
          have HY := dHide hy
          rw [hy] at c2
          clear hy
          obtain ⟨j, rfl⟩ : ∃ j, k = j + 1 := ⟨k - 1, by omega⟩
          have e1 : wr.cell? ⟨b, off + j, none⟩ = some (.int .i64 y) := by simpa using c2
          have t1 : (0 : Int) ≤ (j : Int) := by omega
          have t2 : (j : Int) < (xs.length : Int) := by omega
          have t3 : IntKind.i64.wrap (((j + 1 : Nat) : Int) - 1) = (j : Int) := by rw [IntKind.wrap_i64]; omega
          have t4 : IntKind.i64.wrap ((j : Int) + 1 - 1) = (j : Int) := by rw [IntKind.wrap_i64]; omega
          by_cases hyx : x ≤ y
          · have hd : decide (x ≤ y) = true := decide_eq_true hyx
            have hno : Hid (¬ ascP xs lo hi) := fun h => by
              have := (h (j + 1) hkl).2.2 (by omega)
              rw [dUnhide HX] at this
              have hyy : xs[j] = y := dUnhide HY
              simp only [Nat.add_sub_cancel, hyy] at this
              omega
            clear hc HV hinv HX HY c2
            go_wp2
            go_quiet (first | (go_at_call 54; refine Calls.quiet_of_same (dUnhide CI _)))
            go_wp2
            go_ret
            exact ⟨RetB.no (dUnhide hno), hdr.drewN _⟩
          · have hd : decide (x ≤ y) = false := decide_eq_false hyx
            have hst : Hid (∀ i (h : i < xs.length), i < j + 1 + 1 → lo ≤ xs[i] ∧ xs[i] ≤ hi ∧ ∀ (h' : 0 < i), xs[i - 1]'(by omega) < xs[i]) := fun i h h' => by
              rcases Nat.lt_or_ge i (j + 1) with hlt' | hge
              · exact dUnhide hinv i h hlt'
              · obtain rfl : i = j + 1 := by omega
                have hyy : xs[j] = y := dUnhide HY
                rw [dUnhide HX]
                exact ⟨i1, i2, fun _ => by simp only [Nat.add_sub_cancel, hyy]; omega⟩
            clear hc HV hinv HX HY c2
            go_wp2
            go_quiet (first | (go_at_call 54; refine Calls.quiet_of_same (dUnhide CI _)))
            go_wp2
            go_roundw
            case rel => exact ⟨j + 1 + 1, by go_num, by omega, hst, hdr.drewN _⟩
            case measure => simp [intOf]; omega
        · obtain rfl : k = 0 := by omega
          have c1' : wr.cell? ⟨b, off, none⟩ = some (.int .i64 x) := by simpa using c1
          have t1 : (0 : Int) < (xs.length : Int) := by omega
          have hst : Hid (∀ i (h : i < xs.length), i < 0 + 1 → lo ≤ xs[i] ∧ xs[i] ≤ hi ∧ ∀ (h' : 0 < i), xs[i - 1]'(by omega) < xs[i]) := fun i h h' => by
            obtain rfl : i = 0 := by omega
            rw [dUnhide HX]
            exact ⟨i1, i2, fun h => by omega⟩
          clear hc HV hinv HX
          go_wp2
          go_quiet (first | (go_at_call 54; refine Calls.quiet_of_same (dUnhide CI _)))
          go_wp2
          go_roundw
          case rel => exact ⟨0 + 1, by go_num, by omega, hst, hdr.drewN _⟩
          case measure => simp [intOf]; omega
    · have hyes : Hid (ascP xs lo hi) := fun i h => dUnhide hinv i h (by omega)
      clear hinv HV
      go_wp2
      go_ret
      exact ⟨RetB.yes (dUnhide hyes), hdr⟩
/-- A config that is right. -/
def cfgP (ds : List Int) (cop : Int) : Prop := (1 ≤ ds.length ∧ ds.length ≤ 8) ∧ (1 ≤ cop ∧ cop ≤ 4) ∧ ∀ i (h : i < ds.length), 0 ≤ ds[i] ∧ ds[i] ≤ 7
set_option maxHeartbeats 2000000 in
theorem specCfg_any (sv : Value) (ds : List Int) (cop : Int) (w : World) (hv : Ns w sv ds) :
    Calls Tryz.prog 51 #[.agg #[sv, .int .i64 cop]] w fun e w' => RetB (cfgP ds cop) e ∧ Below w.heap.size w w' := by
  obtain ⟨h0, a, cap, rfl, -, hv⟩ := hv
  have HV := dHide hv
  clear hv
  have hb0 : ∀ o, Below w.heap.size w (w.alloc o) := fun o => (Below.refl _ _).alloc (Nat.le_refl _) o
  by_cases h1 : 1 ≤ ds.length ∧ ds.length ≤ 8
  · have CL := dHide fun W => l1In_yes (ds.length : Int) 1 8 (by omega) (by omega) W
    by_cases h2 : 1 ≤ cop ∧ cop ≤ 4
    · have CC := dHide fun W => l1In_yes cop 1 4 (by omega) (by omega) W
      have hl := h1.2
      go_enter Tryz.func51, Tryz.ntmps51
      go_wp2_with (first | (go_at_call_of 54 cop; refine (dUnhide CC _).mono ?_; rintro e w' ⟨rfl, rfl⟩) | (go_at_call 54; refine (dUnhide CL _).mono ?_; rintro e w' ⟨rfl, rfl⟩))
      go_loopw [3] (fun x wr => ∃ k : Nat, x = .int .i64 (k : Int) ∧ k ≤ ds.length ∧ Hid (∀ i (h : i < ds.length), i < k → 0 ≤ ds[i] ∧ ds[i] ≤ 7) ∧ wr.cell? ⟨w.heap.size, 0, none⟩ = some (.slice a ds.length cap) ∧ Below w.heap.size w wr) (fun x _ => ds.length - (intOf x).toNat)
      case atStart => exact ⟨0, rfl, Nat.zero_le _, fun i h h' => by omega, by simp, hb0 _⟩
      case round =>
        obtain ⟨k, rfl, hk, hinv, hbx, hb⟩ := hrel
        by_cases hlt : (k : Int) < (ds.length : Int)
        · obtain ⟨b, off, rfl, hc⟩ : ∃ b off, a = some ⟨b, off, none⟩ ∧ ∀ i (h : i < ds.length), w.cell? ⟨b, off + i, none⟩ = some (.int .i64 ds[i]) := orN_of_lt (dUnhide HV) (k := k) (by omega)
          have hkl : k < ds.length := by omega
          have c1 : wr.cell? ⟨b, off + k, none⟩ = some (.int .i64 ds[k]) := (hb.cell (p := ⟨b, off + k, none⟩) (dCell_lt (hc k hkl))).trans (hc k hkl)
          obtain ⟨x, hx⟩ : ∃ x, ds[k] = x := ⟨_, rfl⟩
          have HX := dHide hx
          rw [hx] at c1
          clear hx hc
          by_cases hin : x < 0 ∨ 7 < x
          · have CI := dHide fun W => l1In_no x 0 7 hin W
            have hno : Hid (¬ cfgP ds cop) := fun h => by
              have := h.2.2 k hkl
              rw [dUnhide HX] at this
              omega
            clear hin hinv HX HV
            go_wp2_with (go_at_call 54; refine (dUnhide CI _).mono ?_; rintro e w' ⟨rfl, rfl⟩)
            go_ret
            exact ⟨RetB.no (dUnhide hno), hb⟩
          · have CI := dHide fun W => l1In_yes x 0 7 (by omega) (by omega) W
            have hst : Hid (∀ i (h : i < ds.length), i < k + 1 → 0 ≤ ds[i] ∧ ds[i] ≤ 7) := fun i h h' => by
              rcases Nat.lt_or_ge i k with hlt' | hge
              · exact dUnhide hinv i h hlt'
              · obtain rfl : i = k := by omega
                rw [dUnhide HX]
                omega
            clear hin hinv HX HV
            go_wp2_with (go_at_call 54; refine (dUnhide CI _).mono ?_; rintro e w' ⟨rfl, rfl⟩)
            go_roundw
            case rel => exact ⟨k + 1, by go_num, by omega, hst, hbx, hb⟩
            case measure => simp [intOf]; omega
        · have hyes : Hid (cfgP ds cop) := ⟨h1, h2, fun i h => dUnhide hinv i h (by omega)⟩
          clear hinv HV
          go_wp2
          go_ret
          exact ⟨RetB.yes (dUnhide hyes), hb⟩
    · have CC := dHide fun W => l1In_no cop 1 4 (by omega) W
      have hno : Hid (¬ cfgP ds cop) := fun h => h2 h.2.1
      clear h2 HV
      go_enter Tryz.func51, Tryz.ntmps51
      go_wp2_with (first | (go_at_call_of 54 cop; refine (dUnhide CC _).mono ?_; rintro e w' ⟨rfl, rfl⟩) | (go_at_call 54; refine (dUnhide CL _).mono ?_; rintro e w' ⟨rfl, rfl⟩))
      go_ret
      exact ⟨RetB.no (dUnhide hno), hb0 _⟩
  · have CL := dHide fun W => l1In_no (ds.length : Int) 1 8 (by omega) W
    have hno : Hid (¬ cfgP ds cop) := fun h => h1 h.1
    clear h1 HV
    go_enter Tryz.func51, Tryz.ntmps51
    go_wp2_with (go_at_call 54; refine (dUnhide CL _).mono ?_; rintro e w' ⟨rfl, rfl⟩)
    go_ret
    exact ⟨RetB.no (dUnhide hno), hb0 _⟩
end Go.Proofs.YthndkkjgjhgdnaaGreatDoor
namespace Go.Proofs.YthndkkjgjhgdnaaGreatDoor
open Go.ChangeShapes Go.WideShapes Go.ChangeAt Go.RowKit
set_option linter.unusedVariables false

/-- Nodes that are right. -/
def nodesP (ds : List Int) (cop : Int) (xs : List Int) : Prop := cfgP ds cop ∧ ascP xs 0 ((ds.length : Int) - 1)
set_option maxHeartbeats 2000000 in
theorem specNodes_any (sv v : Value) (ds xs : List Int) (cop : Int) (w : World) (hd : Ns w sv ds) (hv : Ns w v xs) :
    Calls Tryz.prog 72 #[.agg #[sv, .int .i64 cop], v] w fun e w' => RetB (nodesP ds cop xs) e ∧ Below w.heap.size w w' := by
  have hb0 : ∀ o, Below w.heap.size w (w.alloc o) := fun o => (Below.refl _ _).alloc (Nat.le_refl _) o
  have C1 := dHide fun o => specCfg_any sv ds cop (w.alloc o) (hd.below (hb0 o))
  have C2 := dHide fun W (hb : Below w.heap.size w W) => l4Asc_any v xs 0 ((ds.length : Int) - 1) W (hv.below hb)
  obtain ⟨h0, a, cap, rfl, -, -⟩ := hd
  obtain ⟨h0', a', cap', rfl, -, -⟩ := hv
  go_enter Tryz.func72, Tryz.ntmps72
  go_wp2_with fail
  refine (dUnhide C1 _).mono ?_
  rintro e w1 ⟨⟨b, rfl, hbb⟩, b1⟩
  have B1 := belowThen (hb0 _) b1
  have c0 : w1.cell? ⟨w.heap.size, 0, none⟩ = some (.slice a ds.length cap) := (b1.cell (p := ⟨w.heap.size, 0, none⟩) (by simp)).trans (by simp)
  have c1 : w1.cell? ⟨w.heap.size, 1, none⟩ = some (.int .i64 cop) := (b1.cell (p := ⟨w.heap.size, 1, none⟩) (by simp)).trans (by simp)
  clear b1 hb0 C1
  cases b
  · have hno : Hid (¬ nodesP ds cop xs) := fun h => by have := hbb.2 h.1; cases this
    clear hbb
    go_wp2
    go_ret
    exact ⟨RetB.no (dUnhide hno), B1⟩
  · have hyes := hbb.1 rfl
    have HY := dHide hyes
    clear hbb hyes
    go_wp2_with fail
    refine (dUnhide C2 _ B1).mono ?_
    rintro e w2 ⟨⟨b, rfl, hbb⟩, hdr⟩
    have B2 := belowThen B1 hdr.below
    have R : RetB (nodesP ds cop xs) (.returned (.bool b)) := ⟨b, rfl, fun h => ⟨dUnhide HY, hbb.1 h⟩, fun h => hbb.2 h.2⟩
    clear hbb hdr C2 c0 c1 HY
    cases b
    · go_wp2
      go_ret
      exact ⟨R, B2⟩
    · go_wp2
      go_ret
      exact ⟨R, B2⟩
set_option maxHeartbeats 2000000 in
theorem l4Has_any (v : Value) (xs : List Int) (y : Int) (w : World) (hv : Ns w v xs) :
    Calls Tryz.prog 129 #[v, .int .i64 y] w fun e w' => RetB (y ∈ xs) e ∧ w' = w := by
  obtain ⟨h0, a, cap, rfl, -, hv⟩ := hv
  have HV := dHide hv
  clear hv
  go_enter Tryz.func129, Tryz.ntmps129
  go_wp2
  go_loop [5] (fun x => ∃ k : Nat, x = .int .i64 (k : Int) ∧ k ≤ xs.length ∧ Hid (∀ i (h : i < xs.length), i < k → xs[i] ≠ y)) (fun x => xs.length - (intOf x).toNat)
  case atStart => exact ⟨0, rfl, Nat.zero_le _, fun i h h' => by omega⟩
  case round =>
    obtain ⟨k, rfl, hk, hinv⟩ := hrel
    by_cases hlt : (k : Int) < (xs.length : Int)
    · obtain ⟨b, off, rfl, hc⟩ : ∃ b off, a = some ⟨b, off, none⟩ ∧ ∀ i (h : i < xs.length), w.cell? ⟨b, off + i, none⟩ = some (.int .i64 xs[i]) := orN_of_lt (dUnhide HV) (k := k) (by omega)
      have hkl : k < xs.length := by omega
      have c1 := hc k hkl
      obtain ⟨x, hx⟩ : ∃ x, xs[k] = x := ⟨_, rfl⟩
      have HX := dHide hx
      rw [hx] at c1
      clear hx hc
      by_cases hxy : x = y
      · have hxy' : (x == y) = true := by simp [hxy]
        have hyes : Hid (y ∈ xs) := by rw [← hxy, ← dUnhide HX]; exact List.getElem_mem hkl
        clear hinv HX HV hxy
        go_wp2
        go_ret
        exact ⟨RetB.yes (dUnhide hyes), rfl⟩
      · have hxy' : (x == y) = false := by simp [hxy]
        have hst : Hid (∀ i (h : i < xs.length), i < k + 1 → xs[i] ≠ y) := fun i h h' => by
          rcases Nat.lt_or_ge i k with hlt' | hge
          · exact dUnhide hinv i h hlt'
          · obtain rfl : i = k := by omega
            rw [dUnhide HX]
            exact hxy
        clear hinv HX HV hxy
        go_wp2
        go_round
        case rel => exact ⟨k + 1, by go_num, by omega, hst⟩
        case measure => simp [intOf]; omega
    · have hno : Hid (¬ y ∈ xs) := fun h => by
        obtain ⟨i, hi, e⟩ := List.getElem_of_mem h
        exact dUnhide hinv i hi (by omega) e
      clear hinv HV
      go_wp2
      go_ret
      exact ⟨RetB.no (dUnhide hno), rfl⟩
theorem infoI : (Tryz.prog.info? 3).map (fun i => (i.zero, i.size, i.bytes)) = some (some (.int .i64 0), 1, 8) := by kernel_rfl
theorem ncells_one (l : List Int) : ∀ u ∈ ncells l, u.oneCell' = true := by
  intro u hu
  simp only [ncells, List.mem_map] at hu
  obtain ⟨c, -, rfl⟩ := hu
  rfl
/-- The kit's law on append, for ints. -/
theorem appN {ops : Array Oper} {rest : List Oper} {o : Oper} {a : Act} {Q : Exit → Act → World → Prop} (w : World) (hgd : o.guard = none) (s x : Operand)
    (ho : o.op = .call { callee := .builtin .append, args := #[s, x], argTypes := #[24, 24] })
    (base : Nat) (v : Value) (bs : List Int) (hs : a.eval s = v) (hown : w.ownsRow base 3 1 v bs.length (ncells bs))
    (ad : Addr) (m c : Nat) (cs : List Int) (hx : a.eval x = .slice (some ad) m c) (hl : cs.length = m) (hnews : ∀ j u, (ncells cs)[j]? = some u → w.cell? (ad.add j) = some u)
    (hb : bs.length + cs.length ≤ 1099511627776) (hbase : base ≤ w.heap.size)
    (h : ∀ v' w', w'.ownsRow base 3 1 v' (bs ++ cs).length (ncells (bs ++ cs)) → w.grownBy w' v.ownBlock → wpList Tryz.prog ops Q rest (a.put o.dst v') w') : wpList Tryz.prog ops Q (o :: rest) a w := by
  obtain ⟨i0, hi, hz0, hz1, hz2⟩ := info_parts infoI
  subst hl
  have hm : maxLen = 9223372036854775807 := rfl
  refine wpList_append_own _ hgd s x 24 ho base 3 i0 (.int .i64 0) 1 8 Tryz.underlying24 hi hz0 hz1 hz2 rfl (by decide) v bs.length (ncells bs) hs hown ad cs.length c (ncells cs) hx (by simp [ncells]) hnews (ncells_one _) (by omega) (by omega) hbase ?_
  intro v' w' h1 h2 _
  refine h v' w' ?_ h2
  have e : ncells (bs ++ cs) = ncells bs ++ ncells cs := by simp [ncells]
  rw [e, List.length_append]; exact h1
/-- A block of one int. -/
theorem one_int (w : World) (c : Int) (T : TypeId) : ∀ j u, (ncells [c])[j]? = some u → (w.alloc (.cells #[.int .i64 c] T)).cell? ((⟨w.heap.size, 0, none⟩ : Addr).add j) = some u := by
  intro j u hj
  match j, hj with
  | 0, hj => simp [ncells] at hj; subst hj; simp [Addr.add]
end Go.Proofs.YthndkkjgjhgdnaaGreatDoor
namespace Go.Proofs.YthndkkjgjhgdnaaGreatDoor
open Go.ChangeShapes Go.WideShapes Go.ChangeAt Go.RowKit
set_option linter.unusedVariables false

/-- Those of a list that are not in another one. -/
def lessL (set list : List Int) : List Int := set.filter fun x => !(list.contains x)
theorem lessL_yes (set list : List Int) (k : Nat) (h : k < set.length) (hx : set[k] ∈ list) : lessL (set.take (k + 1)) list = lessL (set.take k) list := by
  have e : (!(list.contains set[k])) = false := by simpa using hx
  rw [lessL, List.take_succ_eq_append_getElem h, List.filter_append]
  simp only [List.filter_cons, List.filter_nil, e]
  simp [lessL]
theorem lessL_no (set list : List Int) (k : Nat) (h : k < set.length) (hx : ¬ set[k] ∈ list) : lessL (set.take (k + 1)) list = lessL (set.take k) list ++ [set[k]] := by
  have e : (!(list.contains set[k])) = true := by simpa using hx
  rw [lessL, List.take_succ_eq_append_getElem h, List.filter_append]
  simp only [List.filter_cons, List.filter_nil, e]
  simp [lessL]
theorem lessL_len (set list : List Int) : (lessL set list).length ≤ set.length := List.length_filter_le _ _
theorem own_lenN {w : World} {B n : Nat} {v : Value} {l : List Int} (h : w.ownsRow B 3 1 v n (ncells l)) : w.ownsRow B 3 1 v l.length (ncells l) := by
  have e : l.length = n := by have := h.1; simpa [ncells] using this
  rw [e]; exact h
end Go.Proofs.YthndkkjgjhgdnaaGreatDoor
namespace Go.Proofs.YthndkkjgjhgdnaaGreatDoor
open Go.ChangeShapes Go.WideShapes Go.ChangeAt Go.RowKit
set_option linter.unusedVariables false

/-- The domain of node i. -/
def domAt (ds : List Int) (i : Int) : Int := ds.getD i.toNat 0
/-- A number behind others, if it is new. -/
def addD (acc : List Int) (d : Int) : List Int := if acc.contains d then acc else acc ++ [d]
/-- The domains of nodes, each once. -/
def domsOf (ds xs : List Int) : List Int := (xs.map (domAt ds)).foldl addD []
/-- Of how many domains nodes are. -/
def spanN (ds xs : List Int) : Nat := (domsOf ds xs).length
theorem domsOf_take (ds xs : List Int) (k : Nat) (h : k < xs.length) : domsOf ds (xs.take (k + 1)) = addD (domsOf ds (xs.take k)) (domAt ds xs[k]) := by
  rw [domsOf, List.take_succ_eq_append_getElem h, List.map_append, List.foldl_append]
  rfl
theorem addD_len (acc : List Int) (d : Int) : (addD acc d).length ≤ acc.length + 1 := by
  unfold addD
  split
  · omega
  · simp
theorem domsOf_len (ds xs : List Int) (k : Nat) (h : k ≤ xs.length) : (domsOf ds (xs.take k)).length ≤ k := by
  induction k with
  | zero => simp [domsOf]
  | succ n ih =>
    rw [domsOf_take ds xs n (by omega)]
    have := addD_len (domsOf ds (xs.take n)) (domAt ds xs[n])
    have := ih (by omega)
    omega
/-- Eight flags in block g: which numbers are in a list. -/
def Seen (w : World) (g : Nat) (acc : List Int) : Prop := ∀ j : Nat, j < 8 → w.cell? ⟨g, j, none⟩ = some (.bool (acc.contains (j : Int))) ∧ w.frozen? ⟨g, j, none⟩ = false
theorem Seen.step {w : World} {g : Nat} {acc : List Int} (h : Seen w g acc) (d : Nat) (hd : acc.contains (d : Int) = false) : Seen (w.setCell ⟨g, d, none⟩ (.bool true)) g (addD acc (d : Int)) := by
  intro j hj
  obtain ⟨h1, h2⟩ := h j hj
  refine ⟨?_, (World.frozen?_setCell _ _ _ _).trans h2⟩
  have e : addD acc (d : Int) = acc ++ [(d : Int)] := by rw [addD, hd]; rfl
  rw [e]
  by_cases hjd : j = d
  · subst hjd
    rw [World.cell?_setCell_same _ _ _ h1]
    simp
  · rw [set_other h1 (by omega)]
    have hne : ¬ ((j : Int) = (d : Int)) := by omega
    simp [hne]
theorem infoB : (Tryz.prog.info? 4).map (fun i => (i.zero, i.size, i.bytes)) = some (some (.bool false), 1, 1) := by kernel_rfl
/-- Eight flags that are off. -/
def flags8 : Array Value := madeCells (Value.bool false).cells 8
theorem makeB (w : World) : (Instr.makeSlice 175 (.int .i64 8) (.int .i64 8)).run Tryz.prog w = .ok (.slice (some ⟨w.heap.size, 0, none⟩) 8 8) (w.alloc (.cells flags8 4)) := by
  obtain ⟨i0, hi, hz0, hz1, hz2⟩ := info_parts infoB
  have := run_make (P := Tryz.prog) w 175 4 i0 (.bool false) Tryz.underlying175 hi hz0 .i64 .i64 8 8 (by omega) (by omega) (by rw [hz2]; decide) (by decide)
  rw [hz1] at this
  simpa [flags8] using this
theorem flags8_at (j : Nat) (h : j < 8) : flags8[j]? = some (.bool false) := by
  simp [flags8, madeCells, h, Nat.mod_one, Value.cells]
theorem Seen.new (w : World) (T : TypeId) : Seen (w.alloc (.cells flags8 T)) w.heap.size [] := by
  intro j hj
  have := MapKept.heap_alloc w (.cells flags8 T)
  refine ⟨?_, ?_⟩
  · simp only [World.cell?, this.1]
    simpa using flags8_at j hj
  · simp only [World.frozen?, this.1]
    simp
theorem Seen.below {w w' : World} {g : Nat} {acc : List Int} (h : Seen w g acc) (hb : Below w.heap.size w w') : Seen w' g acc := fun j hj => by
  obtain ⟨h1, h2⟩ := h j hj
  have lt := dCell_lt h1
  exact ⟨(hb.cell (p := ⟨g, j, none⟩) lt).trans h1, (hb.frozen (p := ⟨g, j, none⟩) lt).trans h2⟩
/-- Nodes of a config that is right, in whatever order. -/
def inP (ds : List Int) (cop : Int) (xs : List Int) : Prop := cfgP ds cop ∧ ∀ i (h : i < xs.length), 0 ≤ xs[i] ∧ xs[i] ≤ (ds.length : Int) - 1
theorem inP_of {ds : List Int} {cop : Int} {xs : List Int} (h : nodesP ds cop xs) : inP ds cop xs := ⟨h.1, fun i hi => ⟨(h.2 i hi).1, (h.2 i hi).2.1⟩⟩
theorem domAt_in' {ds : List Int} {cop : Int} {xs : List Int} (h : inP ds cop xs) (k : Nat) (hk : k < xs.length) :
    ∃ i d : Nat, xs[k] = (i : Int) ∧ ∃ hi : i < ds.length, ds[i] = (d : Int) ∧ d < 8 ∧ domAt ds xs[k] = (d : Int) := by
  obtain ⟨a1, a2⟩ := h.2 k hk
  obtain ⟨i, hi⟩ := Int.eq_ofNat_of_zero_le a1
  have hil : i < ds.length := by omega
  obtain ⟨b1, b2⟩ := h.1.2.2 i hil
  obtain ⟨d, hd⟩ := Int.eq_ofNat_of_zero_le b1
  refine ⟨i, d, hi, hil, hd, by omega, ?_⟩
  rw [domAt, hi, Int.toNat_natCast]
  simp [List.getD, hil, hd]
theorem domAt_in {ds : List Int} {cop : Int} {xs : List Int} (h : nodesP ds cop xs) (k : Nat) (hk : k < xs.length) :
    ∃ i d : Nat, xs[k] = (i : Int) ∧ ∃ hi : i < ds.length, ds[i] = (d : Int) ∧ d < 8 ∧ domAt ds xs[k] = (d : Int) := domAt_in' (inP_of h) k hk
set_option maxHeartbeats 2000000 in
theorem l4Span_in (sv v : Value) (ds xs : List Int) (cop : Int) (w : World) (hd : Ns w sv ds) (hv : Ns w v xs) (hn : inP ds cop xs) (hl : xs.length ≤ 1000000000) :
    Calls Tryz.prog 80 #[.agg #[sv, .int .i64 cop], v] w fun e w' => e = .returned (.int .i64 (spanN ds xs : Int)) ∧ Below w.heap.size w w' := by
  obtain ⟨h0, a, cap, rfl, -, hd⟩ := hd
  obtain ⟨h0', a', cap', rfl, -, hv⟩ := hv
  have HD := dHide hd
  have HV := dHide hv
  have HN := dHide hn
  have hmk := makeB
  have hb0 : ∀ o o', Below w.heap.size w ((w.alloc o).alloc o') := fun o o' => ((Below.refl _ _).alloc (Nat.le_refl _) o).alloc (by simp) o'
  have hcap := (hn.1.1)
  clear hd hv hn
  go_enter Tryz.func80, Tryz.ntmps80
  go_wp2
  go_loopw [6, 7] (fun nv x wr => ∃ k : Nat, x = .int .i64 (k : Int) ∧ nv = .int .i64 ((domsOf ds (xs.take k)).length : Int) ∧ k ≤ xs.length ∧ Hid (Seen wr (w.heap.size + 1) (domsOf ds (xs.take k))) ∧ wr.cell? ⟨w.heap.size, 0, none⟩ = some (.slice a ds.length cap) ∧ Below w.heap.size w wr) (fun _ x _ => xs.length - (intOf x).toNat)
  case atStart =>
    refine ⟨0, rfl, rfl, Nat.zero_le _, ?_, ?_, hb0 _ _⟩
    · have := Seen.new (w.alloc (Obj.cells #[Value.slice a ds.length cap, Value.int .i64 cop] 26)) 4
      have hs : (w.alloc (Obj.cells #[Value.slice a ds.length cap, Value.int .i64 cop] 26)).heap.size = w.heap.size + 1 := by simp
      rw [hs] at this
      exact this
    · simp
  case round =>
    obtain ⟨k, rfl, rfl, hk, hseen, hbx, hb⟩ := hrel
    by_cases hlt : (k : Int) < (xs.length : Int)
    · have hkl : k < xs.length := by omega
      obtain ⟨b', off', rfl, hc'⟩ : ∃ b off, a' = some ⟨b, off, none⟩ ∧ ∀ i (h : i < xs.length), w.cell? ⟨b, off + i, none⟩ = some (.int .i64 xs[i]) := orN_of_lt (dUnhide HV) (k := k) hkl
      obtain ⟨i, d, e1, hil, e2, hd8, e3⟩ := domAt_in' (dUnhide HN) k hkl
      obtain ⟨b, off, rfl, hc⟩ : ∃ b off, a = some ⟨b, off, none⟩ ∧ ∀ i (h : i < ds.length), w.cell? ⟨b, off + i, none⟩ = some (.int .i64 ds[i]) := orN_of_lt (dUnhide HD) (k := i) hil
      have c1 : wr.cell? ⟨b', off' + k, none⟩ = some (.int .i64 (i : Int)) := by rw [← e1]; exact (hb.cell (p := ⟨b', off' + k, none⟩) (dCell_lt (hc' k hkl))).trans (hc' k hkl)
      have c2 : wr.cell? ⟨b, off + i, none⟩ = some (.int .i64 (d : Int)) := by rw [← e2]; exact (hb.cell (p := ⟨b, off + i, none⟩) (dCell_lt (hc i hil))).trans (hc i hil)
      have estep := dHide (domsOf_take ds xs k hkl)
      rw [e3] at estep
      have hlen := domsOf_len ds xs k hk
      generalize domsOf ds (xs.take k) = acc at *
      obtain ⟨s1, s2⟩ := dUnhide hseen d hd8
      have i1 : (0 : Int) ≤ (i : Int) := by omega
      have i2 : (i : Int) < (ds.length : Int) := by omega
      have j1 : (d : Int) < 8 := by omega
      clear hc hc' e1 e2 e3 HD HV HN
      cases hcon : acc.contains (d : Int) with
      | true =>
        rw [hcon] at s1
        have e4 : addD acc (d : Int) = acc := by rw [addD, hcon]; rfl
        rw [e4] at estep
        clear hcon e4
        go_wp2
        go_quiet (fail)
        go_wp2
        go_roundw
        case rel => exact ⟨k + 1, by go_num, by rw [dUnhide estep], by omega, by rw [dUnhide estep]; exact (dUnhide hseen).below (below_drewN (Below.refl _ _) _), by simpa using hbx, below_drewN hb _⟩
        case measure => simp [intOf]; omega
      | false =>
        rw [hcon] at s1
        have hset := dHide fun n => Seen.step ((dUnhide hseen).below (below_drewN (Below.refl wr.heap.size wr) n)) d hcon
        have e4 : addD acc (d : Int) = acc ++ [(d : Int)] := by rw [addD, hcon]; rfl
        have hl2 : (addD acc (d : Int)).length = acc.length + 1 := by rw [e4]; simp
        have hbs := dHide fun n => (below_drewN hb n).setCell (p := ⟨w.heap.size + 1, d, none⟩) (show w.heap.size ≤ w.heap.size + 1 by omega) (.bool true)
        have hbx2 := dHide fun n : Nat => set_other (b' := w.heap.size + 1) (o' := d) (u := .bool true) (show (wr.drewN n).cell? ⟨w.heap.size, 0, none⟩ = _ by simpa using hbx) (.inl (by omega))
        clear hcon e4
        go_wp2
        go_quiet (fail)
        go_wp2
        go_roundw
        case rel => exact ⟨k + 1, by go_num, by rw [dUnhide estep, hl2]; go_num, by omega, by rw [dUnhide estep]; exact dUnhide hset _, dUnhide hbx2 _, dUnhide hbs _⟩
        case measure => simp [intOf]; omega
    · have e1 : xs.take k = xs := List.take_of_length_le (by omega)
      have e2 : Hid (spanN ds xs = (domsOf ds (xs.take k)).length) := by rw [e1]; rfl
      generalize domsOf ds (xs.take k) = acc at *
      clear e1 HD HV HN hseen
      go_wp2
      go_ret
      exact ⟨by rw [dUnhide e2]; rfl, hb⟩
theorem l4Span_any (sv v : Value) (ds xs : List Int) (cop : Int) (w : World) (hd : Ns w sv ds) (hv : Ns w v xs) (hn : nodesP ds cop xs) (hl : xs.length ≤ 1000000000) :
    Calls Tryz.prog 80 #[.agg #[sv, .int .i64 cop], v] w fun e w' => e = .returned (.int .i64 (spanN ds xs : Int)) ∧ Below w.heap.size w w' := l4Span_in sv v ds xs cop w hd hv (inP_of hn) hl
end Go.Proofs.YthndkkjgjhgdnaaGreatDoor
namespace Go.Proofs.YthndkkjgjhgdnaaGreatDoor
open Go.ChangeShapes Go.WideShapes Go.ChangeAt Go.RowKit
set_option linter.unusedVariables false

/-- Two cells of a block. -/
def Two (w : World) (b : Nat) (c0 c1 : Value) : Prop := w.cell? ⟨b, 0, none⟩ = some c0 ∧ w.cell? ⟨b, 1, none⟩ = some c1
theorem Two.kept {w w' : World} {b : Nat} {c0 c1 : Value} (h : Two w b c0 c1) (hb : Below w.heap.size w w') : Two w' b c0 c1 := by
  have lt := dCell_lt h.1
  exact ⟨(hb.cell (p := ⟨b, 0, none⟩) lt).trans h.1, (hb.cell (p := ⟨b, 1, none⟩) lt).trans h.2⟩
theorem Two.new (w : World) (c0 c1 : Value) (T : TypeId) : Two (w.alloc (.cells #[c0, c1] T)) w.heap.size c0 c1 := ⟨by simp, by simp⟩
end Go.Proofs.YthndkkjgjhgdnaaGreatDoor
namespace Go.Proofs.YthndkkjgjhgdnaaGreatDoor
open Go.ChangeShapes Go.WideShapes Go.ChangeAt Go.RowKit
set_option linter.unusedVariables false

theorem ownN_none (w : World) (T : TypeId) (base : Nat) (hb : base ≤ w.heap.size) : OwnN (w.alloc (.cells #[] T)) base (.slice (some ⟨w.heap.size, 0, none⟩) 0 0) [] := ⟨by simp, _, _, rfl, by simp, .inl rfl⟩
/-- What holds. -/
def holdsP (ds : List Int) (cop : Int) (xs : List Int) : Prop := nodesP ds cop xs ∧ cop ≤ (spanN ds xs : Int)
set_option maxHeartbeats 2000000 in
theorem specHolds_any (sv v : Value) (ds xs : List Int) (cop : Int) (w : World) (hd : Ns w sv ds) (hv : Ns w v xs) (hl : xs.length ≤ 1000000000) :
    Calls Tryz.prog 44 #[.agg #[sv, .int .i64 cop], v] w fun e w' => RetB (holdsP ds cop xs) e ∧ Below w.heap.size w w' := by
  have hb0 : ∀ o, Below w.heap.size w (w.alloc o) := fun o => (Below.refl _ _).alloc (Nat.le_refl _) o
  have C1 := dHide fun W (hb : Below w.heap.size w W) => specNodes_any sv v ds xs cop W (hd.below hb) (hv.below hb)
  have C2 := dHide fun W (hb : Below w.heap.size w W) hn => l4Span_any sv v ds xs cop W (hd.below hb) (hv.below hb) hn hl
  obtain ⟨h0, a, cap, rfl, -, -⟩ := hd
  obtain ⟨h0', a', cap', rfl, -, -⟩ := hv
  by_cases hn : nodesP ds cop xs
  · have HN := dHide hn
    have C2 := dHide fun W hb => dUnhide C2 W hb hn
    have R : RetB (holdsP ds cop xs) (.returned (.bool (decide (cop ≤ (spanN ds xs : Int))))) := ⟨_, rfl, fun h => ⟨hn, of_decide_eq_true h⟩, fun h => decide_eq_true h.2⟩
    clear hn
    generalize (spanN ds xs : Int) = N at *
    go_enter Tryz.func44, Tryz.ntmps44
    go_wp2
    have T0 := Two.new w (.slice a ds.length cap) (.int .i64 cop) 26
    have B0 := hb0 (.cells #[.slice a ds.length cap, .int .i64 cop] 26)
    generalize hW : w.alloc (.cells #[.slice a ds.length cap, .int .i64 cop] 26) = w0 at *
    clear hW hb0
    have HT := dHide T0
    obtain ⟨k0, k1⟩ := T0
    have hbr := Below.refl w0.heap.size w0
    go_region_held3 (fun W => W.cell? ⟨w.heap.size, 0, none⟩ = some (.slice a ds.length cap) ∧ W.cell? ⟨w.heap.size, 1, none⟩ = some (.int .i64 cop)) (go_keep)
      (first
        | (go_at_call 72; refine (dUnhide C1 _ (belowThen B0 hbr.drew)).mono ?_; rintro e w1 ⟨hr, b1⟩; obtain rfl := hr.of_yes (dUnhide HN); have hb1 := belowThen hbr.drew b1; obtain ⟨q0, q1⟩ := (dUnhide HT).kept hb1)
        | (go_at_call 80; refine (dUnhide C2 _ (belowThen B0 hb1)).mono ?_; rintro e w2 ⟨rfl, b2⟩; have hb2 := belowThen hb1 b2; obtain ⟨q0, q1⟩ := (dUnhide HT).kept hb2))
    all_goals
      go_wp2
      go_ret
      exact ⟨R, belowThen B0 hb2⟩
  · have HN := dHide hn
    have R : RetB (holdsP ds cop xs) (.returned (.bool false)) := RetB.no fun h => hn h.1
    clear hn C2
    go_enter Tryz.func44, Tryz.ntmps44
    go_wp2
    have T0 := Two.new w (.slice a ds.length cap) (.int .i64 cop) 26
    have B0 := hb0 (.cells #[.slice a ds.length cap, .int .i64 cop] 26)
    generalize hW : w.alloc (.cells #[.slice a ds.length cap, .int .i64 cop] 26) = w0 at *
    clear hW hb0
    have HT := dHide T0
    obtain ⟨k0, k1⟩ := T0
    have hbr := Below.refl w0.heap.size w0
    refine wp_region_noPanic ?_
    refine wp_region_held_drew (S := fun W => W.cell? ⟨w.heap.size, 0, none⟩ = some (.slice a ds.length cap) ∧ W.cell? ⟨w.heap.size, 1, none⟩ = some (.int .i64 cop)) (by kernel_rfl) ?_ (fun hHeld => ?_)
    · go_keep
    refine wpAnyH_take (i := 0) (oi := { dst := some 5, op := Op.load 26 (Operand.tmp 2), type := 26, pos := "l04_domain.go:52", after := #[], guard := none }) (v := ?_) rfl (by kernel_rfl) (by kernel_rfl) (by kernel_rfl) (fun _ _ _ h => h) (Or.inl ⟨by rfl, ?_⟩) (by assumption) ?_
    rotate_left 1
    · intro w hSw
      (try dsimp only at hSw)
      first | (go_simp; done) | (go_simp; with_reducible rfl)
    try simp only [Act.put, List.setIfInBounds_toArray, List.set_cons_zero, List.set_cons_succ]
    refine wpAnyH_take (i := 1) (oi := { dst := some 6, op := Op.move (Operand.tmp 1), type := 24, pos := "l04_domain.go:52", after := #[], guard := none }) (v := ?_) rfl (by kernel_rfl) (by kernel_rfl) (by kernel_rfl) (fun _ _ _ h => h) (Or.inl ⟨by rfl, ?_⟩) (by assumption) ?_
    rotate_left 1
    · intro w hSw
      (try dsimp only at hSw)
      first | (go_simp; done) | (go_simp; with_reducible rfl)
    try simp only [Act.put, List.setIfInBounds_toArray, List.set_cons_zero, List.set_cons_succ]
    refine wpAnyH_ready (rs := [2]) (by kernel_rfl) (by simp) ?_
    refine AllReadyH.cons (o := { dst := some 7, op := Op.call { callee := Callee.value (Operand.func 72), args := #[Operand.tmp 5, Operand.tmp 6], argTypes := #[26, 24] }, type := 4, pos := "l04_domain.go:52", after := #[{ on := 0, ground := Ground.data }, { on := 1, ground := Ground.data }], guard := none }) rfl (fun K hK => ?_) AllReadyH.nil
    go_simp
    refine (dUnhide C1 _ (belowThen B0 hbr.drew)).mono ?_
    rintro e w1 ⟨hr, b1⟩
    obtain rfl := hr.of_no (dUnhide HN)
    have hb1 := belowThen hbr.drew b1
    obtain ⟨q0, q1⟩ := (dUnhide HT).kept hb1
    (try go_wp2_with fail)
    refine hK.out _ _ ?_ (fun hHeld => ?_)
    · go_keep
    clear hK K
    try simp only [Act.put, List.setIfInBounds_toArray, List.set_cons_zero, List.set_cons_succ]
    refine wpAnyH_take (i := 3) (oi := { dst := some 8, op := Op.move (Operand.tmp 7), type := 4, pos := "l04_domain.go:52", after := #[{ on := 2, ground := Ground.data }, { on := 2, ground := Ground.chain }], guard := none }) (v := ?_) rfl (by kernel_rfl) (by kernel_rfl) (by kernel_rfl) (fun _ _ _ h => h) (Or.inl ⟨by rfl, ?_⟩) (by assumption) ?_
    rotate_left 1
    · intro w hSw
      (try dsimp only at hSw)
      first | (go_simp; done) | (go_simp; with_reducible rfl)
    try simp only [Act.put, List.setIfInBounds_toArray, List.set_cons_zero, List.set_cons_succ]
    refine wpAnyH_take (i := 4) (oi := { dst := some 9, op := Op.load 26 (Operand.tmp 2), type := 26, pos := "l04_domain.go:52", after := #[{ on := 3, ground := Ground.guard }], guard := some (3, true) }) (v := undef) rfl (by kernel_rfl) (by kernel_rfl) (by kernel_rfl) (fun _ _ _ h => h) (Or.inr ⟨by rfl, rfl⟩) (by assumption) ?_
    try simp only [Act.put, List.setIfInBounds_toArray, List.set_cons_zero, List.set_cons_succ]
    refine wpAnyH_take (i := 5) (oi := { dst := some 10, op := Op.move (Operand.tmp 1), type := 24, pos := "l04_domain.go:52", after := #[{ on := 3, ground := Ground.guard }], guard := some (3, true) }) (v := undef) rfl (by kernel_rfl) (by kernel_rfl) (by kernel_rfl) (fun _ _ _ h => h) (Or.inr ⟨by rfl, rfl⟩) (by assumption) ?_
    try simp only [Act.put, List.setIfInBounds_toArray, List.set_cons_zero, List.set_cons_succ]
    refine wpAnyH_take (i := 6) (oi := { dst := some 11, op := Op.call { callee := Callee.value (Operand.func 80), args := #[Operand.tmp 9, Operand.tmp 10], argTypes := #[26, 24] }, type := 3, pos := "l04_domain.go:52", after := #[{ on := 4, ground := Ground.data }, { on := 5, ground := Ground.data }, { on := 3, ground := Ground.chain }, { on := 3, ground := Ground.guard }], guard := some (3, true) }) (v := undef) rfl (by kernel_rfl) (by kernel_rfl) (by kernel_rfl) (fun _ _ _ h => h) (Or.inr ⟨by rfl, rfl⟩) (by assumption) ?_
    try simp only [Act.put, List.setIfInBounds_toArray, List.set_cons_zero, List.set_cons_succ]
    refine wpAnyH_take (i := 7) (oi := { dst := some 12, op := Op.fieldAddr 26 (Operand.tmp 2) 1, type := 0, pos := "l04_domain.go:52", after := #[{ on := 3, ground := Ground.guard }], guard := some (3, true) }) (v := undef) rfl (by kernel_rfl) (by kernel_rfl) (by kernel_rfl) (fun _ _ _ h => h) (Or.inr ⟨by rfl, rfl⟩) (by assumption) ?_
    try simp only [Act.put, List.setIfInBounds_toArray, List.set_cons_zero, List.set_cons_succ]
    refine wpAnyH_take (i := 8) (oi := { dst := some 13, op := Op.load 3 (Operand.tmp 12), type := 3, pos := "l04_domain.go:52", after := #[{ on := 7, ground := Ground.data }, { on := 3, ground := Ground.guard }], guard := some (3, true) }) (v := undef) rfl (by kernel_rfl) (by kernel_rfl) (by kernel_rfl) (fun _ _ _ h => h) (Or.inr ⟨by rfl, rfl⟩) (by assumption) ?_
    try simp only [Act.put, List.setIfInBounds_toArray, List.set_cons_zero, List.set_cons_succ]
    refine wpAnyH_take (i := 9) (oi := { dst := some 14, op := Op.binOp BinOp.geq 3 (Operand.tmp 11) (Operand.tmp 13) 3, type := 4, pos := "l04_domain.go:52", after := #[{ on := 6, ground := Ground.data }, { on := 8, ground := Ground.data }, { on := 3, ground := Ground.guard }], guard := some (3, true) }) (v := undef) rfl (by kernel_rfl) (by kernel_rfl) (by kernel_rfl) (fun _ _ _ h => h) (Or.inr ⟨by rfl, rfl⟩) (by assumption) ?_
    try simp only [Act.put, List.setIfInBounds_toArray, List.set_cons_zero, List.set_cons_succ]
    refine wpAnyH_take (i := 10) (oi := { dst := some 15, op := Op.pick (Operand.tmp 8) (Operand.tmp 14) (Operand.const (Value.bool false)), type := 4, pos := "l04_domain.go:52", after := #[{ on := 3, ground := Ground.data }, { on := 9, ground := Ground.data }], guard := none }) (v := ?_) rfl (by kernel_rfl) (by kernel_rfl) (by kernel_rfl) (fun _ _ _ h => h) (Or.inl ⟨by rfl, ?_⟩) (by assumption) ?_
    rotate_left 1
    · intro w hSw
      (try dsimp only at hSw)
      first | (go_simp; done) | (go_simp; with_reducible rfl)
    try simp only [Act.put, List.setIfInBounds_toArray, List.set_cons_zero, List.set_cons_succ]
    refine wpAnyH_take (i := 11) (oi := { dst := some 4, op := Op.assign (Operand.tmp 15), type := 4, pos := "l04_domain.go:52", after := #[{ on := 10, ground := Ground.data }, { on := 6, ground := Ground.chain }, { on := 0, ground := Ground.phase }, { on := 1, ground := Ground.phase }, { on := 2, ground := Ground.phase }, { on := 3, ground := Ground.phase }, { on := 4, ground := Ground.phase }, { on := 5, ground := Ground.phase }, { on := 6, ground := Ground.phase }, { on := 7, ground := Ground.phase }, { on := 8, ground := Ground.phase }, { on := 9, ground := Ground.phase }, { on := 10, ground := Ground.phase }], guard := none }) (v := ?_) rfl (by kernel_rfl) (by kernel_rfl) (by kernel_rfl) (fun _ _ _ h => h) (Or.inl ⟨by rfl, ?_⟩) (by assumption) ?_
    rotate_left 1
    · intro w hSw
      (try dsimp only at hSw)
      first | (go_simp; done) | (go_simp; with_reducible rfl)
    try simp only [Act.put, List.setIfInBounds_toArray, List.set_cons_zero, List.set_cons_succ]
    refine wpAnyH_done (by kernel_rfl) ?_ _
    refine NoPanic.normal ?_
    go_wp2
    go_ret
    exact ⟨R, belowThen B0 hb1⟩
end Go.Proofs.YthndkkjgjhgdnaaGreatDoor
namespace Go.Proofs.YthndkkjgjhgdnaaGreatDoor
open Go.ChangeShapes Go.WideShapes Go.ChangeAt Go.RowKit
set_option linter.unusedVariables false

theorem ascP_lt {xs : List Int} {lo hi : Int} (h : ascP xs lo hi) : ∀ j i (hj : j < xs.length) (hij : i < j), xs[i]'(by omega) < xs[j] := by
  intro j
  induction j with
  | zero => intro i hj hij; omega
  | succ n ih =>
    intro i hj hij
    have h1 := (h (n + 1) hj).2.2 (by omega)
    simp only [Nat.add_sub_cancel] at h1
    rcases Nat.lt_or_ge i n with hlt | hge
    · have := ih i (by omega) hlt
      omega
    · obtain rfl : i = n := by omega
      exact h1
theorem ascP_iff (xs : List Int) (lo hi : Int) : ascP xs lo hi ↔ xs.Pairwise (· < ·) ∧ ∀ x ∈ xs, lo ≤ x ∧ x ≤ hi := by
  constructor
  · intro h
    refine ⟨List.pairwise_iff_getElem.2 fun i j hi' hj hij => ascP_lt h j i hj hij, fun x hx => ?_⟩
    obtain ⟨i, hi', rfl⟩ := List.getElem_of_mem hx
    exact ⟨(h i hi').1, (h i hi').2.1⟩
  · rintro ⟨h1, h2⟩ i hi'
    have hb := h2 xs[i] (List.getElem_mem hi')
    exact ⟨hb.1, hb.2, fun h' => List.pairwise_iff_getElem.1 h1 (i - 1) i (by omega) hi' (by omega)⟩
theorem ascP_filter {xs : List Int} {lo hi : Int} (h : ascP xs lo hi) (f : Int → Bool) : ascP (xs.filter f) lo hi := by
  rw [ascP_iff] at h ⊢
  exact ⟨h.1.filter f, fun x hx => h.2 x (List.mem_filter.1 hx).1⟩
theorem nodesP_less {ds set list : List Int} {cop : Int} (h : nodesP ds cop set) : nodesP ds cop (lessL set list) := ⟨h.1, ascP_filter h.2 _⟩
theorem lessL_nil {set list : List Int} : lessL set list = [] ↔ ∀ x ∈ set, x ∈ list := by
  rw [lessL, List.filter_eq_nil_iff]
  constructor
  · intro h x hx
    have := h x hx
    simpa using this
  · intro h x hx
    have := h x hx
    simp [this]
/-- What is enough. -/
def enoughP (ds : List Int) (cop : Int) (set list : List Int) : Prop := holdsP ds cop set ∧ nodesP ds cop list ∧ lessL list set = [] ∧ (spanN ds (lessL set list) : Int) < cop
end Go.Proofs.YthndkkjgjhgdnaaGreatDoor
namespace Go.Proofs.YthndkkjgjhgdnaaGreatDoor

theorem len_le_of_sub {l : List Int} (hn : l.Nodup) : ∀ m : List Int, (∀ x ∈ l, x ∈ m) → l.length ≤ m.length := by
  induction l with
  | nil => intro m _; simp
  | cons a l ih =>
    intro m hs
    obtain ⟨s, t, rfl⟩ := List.append_of_mem (hs a (List.mem_cons_self ..))
    have hna : a ∉ l := (List.nodup_cons.1 hn).1
    have := ih (List.nodup_cons.1 hn).2 (s ++ t) (fun x hx => by
      have hxa : x ≠ a := fun e => hna (e ▸ hx)
      have h1 := hs x (List.mem_cons_of_mem _ hx)
      simp only [List.mem_append, List.mem_cons] at h1 ⊢
      rcases h1 with h1 | h1 | h1
      · exact .inl h1
      · exact absurd h1 hxa
      · exact .inr h1)
    simp only [List.length_append, List.length_cons] at this ⊢
    omega
theorem mem_addD {acc : List Int} {d x : Int} : x ∈ addD acc d ↔ x ∈ acc ∨ x = d := by
  unfold addD
  by_cases h : acc.contains d = true
  · rw [if_pos h]
    have h' : d ∈ acc := by simpa using h
    constructor
    · exact .inl
    · rintro (h1 | rfl)
      · exact h1
      · exact h'
  · rw [if_neg h]
    simp
theorem nodup_addD {acc : List Int} {d : Int} (h : acc.Nodup) : (addD acc d).Nodup := by
  unfold addD
  by_cases hc : acc.contains d = true
  · rw [if_pos hc]; exact h
  · rw [if_neg hc]
    have h' : d ∉ acc := by simpa using hc
    refine List.nodup_append.2 ⟨h, by simp, ?_⟩
    intro a ha b hb e
    rw [List.mem_singleton.1 hb] at e
    exact h' (e ▸ ha)
theorem foldl_addD (l : List Int) : ∀ acc : List Int, (acc.Nodup → (l.foldl addD acc).Nodup) ∧ ∀ x, x ∈ l.foldl addD acc ↔ x ∈ acc ∨ x ∈ l := by
  induction l with
  | nil => intro acc; exact ⟨fun h => h, fun x => by simp⟩
  | cons a l ih =>
    intro acc
    obtain ⟨h1, h2⟩ := ih (addD acc a)
    refine ⟨fun h => h1 (nodup_addD h), fun x => ?_⟩
    rw [List.foldl_cons, h2 x, mem_addD, List.mem_cons, or_assoc]
theorem domsOf_nodup (ds xs : List Int) : (domsOf ds xs).Nodup := (foldl_addD _ []).1 List.nodup_nil
theorem mem_domsOf {ds xs : List Int} {d : Int} : d ∈ domsOf ds xs ↔ ∃ x ∈ xs, domAt ds x = d := by
  unfold domsOf
  rw [(foldl_addD _ []).2 d]
  simp
theorem spanN_mono {ds xs ys : List Int} (h : ∀ x ∈ xs, x ∈ ys) : spanN ds xs ≤ spanN ds ys := by
  refine len_le_of_sub (domsOf_nodup ds xs) _ fun d hd => ?_
  obtain ⟨x, hx, rfl⟩ := mem_domsOf.1 hd
  exact mem_domsOf.2 ⟨x, h x hx, rfl⟩
theorem spanN_le_len (ds xs : List Int) : spanN ds xs ≤ xs.length := by
  have := domsOf_len ds xs xs.length (Nat.le_refl _)
  rw [List.take_length] at this
  exact this
theorem spanN_more (ds xs : List Int) (y : Int) : spanN ds (xs ++ [y]) = spanN ds xs ∨ spanN ds (xs ++ [y]) = spanN ds xs + 1 := by
  have e : domsOf ds (xs ++ [y]) = addD (domsOf ds xs) (domAt ds y) := by
    unfold domsOf; rw [List.map_append, List.foldl_append]; rfl
  unfold spanN
  rw [e]
  unfold addD
  split
  · exact .inl rfl
  · exact .inr (by simp)
theorem mem_lessL {set list : List Int} {x : Int} : x ∈ lessL set list ↔ x ∈ set ∧ ¬ x ∈ list := by
  unfold lessL
  simp
/-- What holds and what is enough of one set have a node in common. -/
theorem meet_node {ds set list part : List Int} {cop : Int} (he : enoughP ds cop set list) (hh : holdsP ds cop part) (hp : ∀ x ∈ part, x ∈ set) : ∃ x ∈ part, x ∈ list := by
  rcases Classical.em (∃ x ∈ part, x ∈ list) with h | h
  · exact h
  · exfalso
    have hs : ∀ x ∈ part, x ∈ lessL set list := fun x hx => mem_lessL.2 ⟨hp x hx, fun hl => h ⟨x, hx, hl⟩⟩
    have h1 := spanN_mono (ds := ds) hs
    have h2 := hh.2
    have h3 := he.2.2.2
    omega
theorem lessL_self (set : List Int) : lessL set set = [] := lessL_nil.2 fun _ h => h
theorem enough_self {ds set : List Int} {cop : Int} (h : holdsP ds cop set) : enoughP ds cop set set := by
  refine ⟨h, h.1, lessL_self set, ?_⟩
  rw [lessL_self]
  have hc := h.1.1.2.1.1
  show ((domsOf ds []).length : Int) < cop
  have : (domsOf ds []).length = 0 := rfl
  omega
theorem rest_not_holds {ds set list : List Int} {cop : Int} (h : enoughP ds cop set list) : ¬ holdsP ds cop (lessL set list) := fun k => by
  have h1 := k.2
  have h2 := h.2.2.2
  omega
theorem nodes_filter {ds set : List Int} {cop : Int} (h : nodesP ds cop set) (f : Int → Bool) : nodesP ds cop (set.filter f) := ⟨h.1, ascP_filter h.2 f⟩
/-- A list with the last node more. -/
theorem nodes_more {ds xs : List Int} {cop : Int} (h : nodesP ds cop xs) (hl : xs = [] ∨ xs.getLast? ≠ some ((ds.length : Int) - 1)) : nodesP ds cop (xs ++ [(ds.length : Int) - 1]) := by
  refine ⟨h.1, (ascP_iff _ _ _).2 ?_⟩
  obtain ⟨h1, h2⟩ := (ascP_iff _ _ _).1 h.2
  have hd := h.1.1.1
  refine ⟨List.pairwise_append.2 ⟨h1, by simp, ?_⟩, ?_⟩
  · intro x hx y hy
    rw [List.mem_singleton.1 hy]
    have hb := h2 x hx
    rcases Int.lt_or_le x ((ds.length : Int) - 1) with h3 | h3
    · exact h3
    · exfalso
      have hxe : x = (ds.length : Int) - 1 := by omega
      subst hxe
      obtain ⟨s, t, rfl⟩ := List.append_of_mem hx
      cases t with
      | nil =>
        rcases hl with hl | hl
        · simp at hl
        · exact hl (by simp)
      | cons z t =>
        have hz := h2 z (by simp)
        have hlt : (ds.length : Int) - 1 < z := by
          have := (List.pairwise_append.1 h1).2.1
          exact (List.pairwise_cons.1 this).1 z (List.mem_cons_self ..)
        omega
  · intro x hx
    rcases List.mem_append.1 hx with h3 | h3
    · exact h2 x h3
    · rw [List.mem_singleton.1 h3]; omega
end Go.Proofs.YthndkkjgjhgdnaaGreatDoor
