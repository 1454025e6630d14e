/- spec's l4Span. -/
import Derived.Test.YtognmmmplmideaaDomC
namespace Go.Proofs.Ytognmmmplmideaa
open Go.ChangeShapes Go.WideShapes Go.ChangeAt Go.RowKit
set_option linter.unusedVariables false

/-- The domain of node i. -/
def domAt (ds : List Int) (i : Int) : Int := ds.getD i.toNat 0
/-- A number behind others, if it is new. -/
def addD (acc : List Int) (d : Int) : List Int := if acc.contains d then acc else acc ++ [d]
/-- The domains of nodes, each once. -/
def domsOf (ds xs : List Int) : List Int := (xs.map (domAt ds)).foldl addD []
/-- Of how many domains nodes are. -/
def spanN (ds xs : List Int) : Nat := (domsOf ds xs).length
theorem domsOf_take (ds xs : List Int) (k : Nat) (h : k < xs.length) : domsOf ds (xs.take (k + 1)) = addD (domsOf ds (xs.take k)) (domAt ds xs[k]) := by
  rw [domsOf, List.take_succ_eq_append_getElem h, List.map_append, List.foldl_append]
  rfl
theorem addD_len (acc : List Int) (d : Int) : (addD acc d).length ≤ acc.length + 1 := by
  unfold addD
  split
  · omega
  · simp
theorem domsOf_len (ds xs : List Int) (k : Nat) (h : k ≤ xs.length) : (domsOf ds (xs.take k)).length ≤ k := by
  induction k with
  | zero => simp [domsOf]
  | succ n ih =>
    rw [domsOf_take ds xs n (by omega)]
    have := addD_len (domsOf ds (xs.take n)) (domAt ds xs[n])
    have := ih (by omega)
    omega
/-- Eight flags in block g: which numbers are in a list. -/
def Seen (w : World) (g : Nat) (acc : List Int) : Prop := ∀ j : Nat, j < 8 → w.cell? ⟨g, j, none⟩ = some (.bool (acc.contains (j : Int))) ∧ w.frozen? ⟨g, j, none⟩ = false
theorem Seen.step {w : World} {g : Nat} {acc : List Int} (h : Seen w g acc) (d : Nat) (hd : acc.contains (d : Int) = false) : Seen (w.setCell ⟨g, d, none⟩ (.bool true)) g (addD acc (d : Int)) := by
  intro j hj
  obtain ⟨h1, h2⟩ := h j hj
  refine ⟨?_, (World.frozen?_setCell _ _ _ _).trans h2⟩
  have e : addD acc (d : Int) = acc ++ [(d : Int)] := by rw [addD, hd]; rfl
  rw [e]
  by_cases hjd : j = d
  · subst hjd
    rw [World.cell?_setCell_same _ _ _ h1]
    simp
  · rw [set_other h1 (by omega)]
    have hne : ¬ ((j : Int) = (d : Int)) := by omega
    simp [hne]
theorem infoB : (Try.prog.info? 4).map (fun i => (i.zero, i.size, i.bytes)) = some (some (.bool false), 1, 1) := by kernel_rfl
/-- Eight flags that are off. -/
def flags8 : Array Value := madeCells (Value.bool false).cells 8
theorem makeB (w : World) : (Instr.makeSlice 133 (.int .i64 8) (.int .i64 8)).run Try.prog w = .ok (.slice (some ⟨w.heap.size, 0, none⟩) 8 8) (w.alloc (.cells flags8 4)) := by
  obtain ⟨i0, hi, hz0, hz1, hz2⟩ := info_parts infoB
  have := run_make (P := Try.prog) w 133 4 i0 (.bool false) Try.underlying133 hi hz0 .i64 .i64 8 8 (by omega) (by omega) (by rw [hz2]; decide) (by decide)
  rw [hz1] at this
  simpa [flags8] using this
theorem flags8_at (j : Nat) (h : j < 8) : flags8[j]? = some (.bool false) := by
  simp [flags8, madeCells, h, Nat.mod_one, Value.cells]
theorem Seen.new (w : World) (T : TypeId) : Seen (w.alloc (.cells flags8 T)) w.heap.size [] := by
  intro j hj
  have := MapKept.heap_alloc w (.cells flags8 T)
  refine ⟨?_, ?_⟩
  · simp only [World.cell?, this.1]
    simpa using flags8_at j hj
  · simp only [World.frozen?, this.1]
    simp
theorem Seen.below {w w' : World} {g : Nat} {acc : List Int} (h : Seen w g acc) (hb : Below w.heap.size w w') : Seen w' g acc := fun j hj => by
  obtain ⟨h1, h2⟩ := h j hj
  have lt := dCell_lt h1
  exact ⟨(hb.cell (p := ⟨g, j, none⟩) lt).trans h1, (hb.frozen (p := ⟨g, j, none⟩) lt).trans h2⟩
/-- Nodes of a config that is right, in whatever order. -/
def inP (ds : List Int) (cop : Int) (xs : List Int) : Prop := cfgP ds cop ∧ ∀ i (h : i < xs.length), 0 ≤ xs[i] ∧ xs[i] ≤ (ds.length : Int) - 1
theorem inP_of {ds : List Int} {cop : Int} {xs : List Int} (h : nodesP ds cop xs) : inP ds cop xs := ⟨h.1, fun i hi => ⟨(h.2 i hi).1, (h.2 i hi).2.1⟩⟩
theorem domAt_in' {ds : List Int} {cop : Int} {xs : List Int} (h : inP ds cop xs) (k : Nat) (hk : k < xs.length) :
    ∃ i d : Nat, xs[k] = (i : Int) ∧ ∃ hi : i < ds.length, ds[i] = (d : Int) ∧ d < 8 ∧ domAt ds xs[k] = (d : Int) := by
  obtain ⟨a1, a2⟩ := h.2 k hk
  obtain ⟨i, hi⟩ := Int.eq_ofNat_of_zero_le a1
  have hil : i < ds.length := by omega
  obtain ⟨b1, b2⟩ := h.1.2.2 i hil
  obtain ⟨d, hd⟩ := Int.eq_ofNat_of_zero_le b1
  refine ⟨i, d, hi, hil, hd, by omega, ?_⟩
  rw [domAt, hi, Int.toNat_natCast]
  simp [List.getD, hil, hd]
theorem domAt_in {ds : List Int} {cop : Int} {xs : List Int} (h : nodesP ds cop xs) (k : Nat) (hk : k < xs.length) :
    ∃ i d : Nat, xs[k] = (i : Int) ∧ ∃ hi : i < ds.length, ds[i] = (d : Int) ∧ d < 8 ∧ domAt ds xs[k] = (d : Int) := domAt_in' (inP_of h) k hk
set_option maxHeartbeats 2000000 in
theorem l4Span_in (sv v : Value) (ds xs : List Int) (cop : Int) (w : World) (hd : Ns w sv ds) (hv : Ns w v xs) (hn : inP ds cop xs) (hl : xs.length ≤ 1000000000) :
    Calls Try.prog 91 #[.agg #[sv, .int .i64 cop], v] w fun e w' => e = .returned (.int .i64 (spanN ds xs : Int)) ∧ Below w.heap.size w w' := by
  obtain ⟨h0, a, cap, rfl, -, hd⟩ := hd
  obtain ⟨h0', a', cap', rfl, -, hv⟩ := hv
  have HD := dHide hd
  have HV := dHide hv
  have HN := dHide hn
  have hmk := makeB
  have hb0 : ∀ o o', Below w.heap.size w ((w.alloc o).alloc o') := fun o o' => ((Below.refl _ _).alloc (Nat.le_refl _) o).alloc (by simp) o'
  have hcap := (hn.1.1)
  clear hd hv hn
  go_enter Try.func91, Try.ntmps91
  go_wp2
  go_loopw [6, 7] (fun nv x wr => ∃ k : Nat, x = .int .i64 (k : Int) ∧ nv = .int .i64 ((domsOf ds (xs.take k)).length : Int) ∧ k ≤ xs.length ∧ Hid (Seen wr (w.heap.size + 1) (domsOf ds (xs.take k))) ∧ wr.cell? ⟨w.heap.size, 0, none⟩ = some (.slice a ds.length cap) ∧ Below w.heap.size w wr) (fun _ x _ => xs.length - (intOf x).toNat)
  case atStart =>
    refine ⟨0, rfl, rfl, Nat.zero_le _, ?_, ?_, hb0 _ _⟩
    · have := Seen.new (w.alloc (Obj.cells #[Value.slice a ds.length cap, Value.int .i64 cop] 43)) 4
      have hs : (w.alloc (Obj.cells #[Value.slice a ds.length cap, Value.int .i64 cop] 43)).heap.size = w.heap.size + 1 := by simp
      rw [hs] at this
      exact this
    · simp
  case round =>
    obtain ⟨k, rfl, rfl, hk, hseen, hbx, hb⟩ := hrel
    by_cases hlt : (k : Int) < (xs.length : Int)
    · have hkl : k < xs.length := by omega
      obtain ⟨b', off', rfl, hc'⟩ : ∃ b off, a' = some ⟨b, off, none⟩ ∧ ∀ i (h : i < xs.length), w.cell? ⟨b, off + i, none⟩ = some (.int .i64 xs[i]) := orN_of_lt (dUnhide HV) (k := k) hkl
      obtain ⟨i, d, e1, hil, e2, hd8, e3⟩ := domAt_in' (dUnhide HN) k hkl
      obtain ⟨b, off, rfl, hc⟩ : ∃ b off, a = some ⟨b, off, none⟩ ∧ ∀ i (h : i < ds.length), w.cell? ⟨b, off + i, none⟩ = some (.int .i64 ds[i]) := orN_of_lt (dUnhide HD) (k := i) hil
      have c1 : wr.cell? ⟨b', off' + k, none⟩ = some (.int .i64 (i : Int)) := by rw [← e1]; exact (hb.cell (p := ⟨b', off' + k, none⟩) (dCell_lt (hc' k hkl))).trans (hc' k hkl)
      have c2 : wr.cell? ⟨b, off + i, none⟩ = some (.int .i64 (d : Int)) := by rw [← e2]; exact (hb.cell (p := ⟨b, off + i, none⟩) (dCell_lt (hc i hil))).trans (hc i hil)
      have estep := dHide (domsOf_take ds xs k hkl)
      rw [e3] at estep
      have hlen := domsOf_len ds xs k hk
      generalize domsOf ds (xs.take k) = acc at *
      obtain ⟨s1, s2⟩ := dUnhide hseen d hd8
      have i1 : (0 : Int) ≤ (i : Int) := by omega
      have i2 : (i : Int) < (ds.length : Int) := by omega
      have j1 : (d : Int) < 8 := by omega
      clear hc hc' e1 e2 e3 HD HV HN
      cases hcon : acc.contains (d : Int) with
      | true =>
        rw [hcon] at s1
        have e4 : addD acc (d : Int) = acc := by rw [addD, hcon]; rfl
        rw [e4] at estep
        clear hcon e4
        go_wp2
        go_quiet (fail)
        go_wp2
        go_roundw
        case rel => exact ⟨k + 1, by go_num, by rw [dUnhide estep], by omega, by rw [dUnhide estep]; exact (dUnhide hseen).below (below_drewN (Below.refl _ _) _), by simpa using hbx, below_drewN hb _⟩
        case measure => simp [intOf]; omega
      | false =>
        rw [hcon] at s1
        have hset := dHide fun n => Seen.step ((dUnhide hseen).below (below_drewN (Below.refl wr.heap.size wr) n)) d hcon
        have e4 : addD acc (d : Int) = acc ++ [(d : Int)] := by rw [addD, hcon]; rfl
        have hl2 : (addD acc (d : Int)).length = acc.length + 1 := by rw [e4]; simp
        have hbs := dHide fun n => (below_drewN hb n).setCell (p := ⟨w.heap.size + 1, d, none⟩) (show w.heap.size ≤ w.heap.size + 1 by omega) (.bool true)
        have hbx2 := dHide fun n : Nat => set_other (b' := w.heap.size + 1) (o' := d) (u := .bool true) (show (wr.drewN n).cell? ⟨w.heap.size, 0, none⟩ = _ by simpa using hbx) (.inl (by omega))
        clear hcon e4
        go_wp2
        go_quiet (fail)
        go_wp2
        go_roundw
        case rel => exact ⟨k + 1, by go_num, by rw [dUnhide estep, hl2]; go_num, by omega, by rw [dUnhide estep]; exact dUnhide hset _, dUnhide hbx2 _, dUnhide hbs _⟩
        case measure => simp [intOf]; omega
    · have e1 : xs.take k = xs := List.take_of_length_le (by omega)
      have e2 : Hid (spanN ds xs = (domsOf ds (xs.take k)).length) := by rw [e1]; rfl
      generalize domsOf ds (xs.take k) = acc at *
      clear e1 HD HV HN hseen
      go_wp2
      go_ret
      exact ⟨by rw [dUnhide e2]; rfl, hb⟩
theorem l4Span_any (sv v : Value) (ds xs : List Int) (cop : Int) (w : World) (hd : Ns w sv ds) (hv : Ns w v xs) (hn : nodesP ds cop xs) (hl : xs.length ≤ 1000000000) :
    Calls Try.prog 91 #[.agg #[sv, .int .i64 cop], v] w fun e w' => e = .returned (.int .i64 (spanN ds xs : Int)) ∧ Below w.heap.size w w' := l4Span_in sv v ds xs cop w hd hv (inP_of hn) hl
end Go.Proofs.Ytognmmmplmideaa
