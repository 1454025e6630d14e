/- impl's NodesMask; around, which is ranged over. -/
import Derived.Test.YtofklfjomofijaaImpEa
import Derived.Test.YtofklfjomofijaaImpDd
namespace Go.Proofs.Ytofklfjomofijaa
open Go.ChangeShapes Go.WideShapes Go.ChangeAt Go.RowKit Go.Shelf
set_option linter.unusedVariables false
attribute [local go_sem] Oper.semAt_some

set_option maxHeartbeats 2000000 in
theorem implNodesMask_yes (v : Value) (xs : List Int) (w : World) (hv : Ns w v xs) (hi : allInt xs) (hl : xs.length ≤ 1048576) (ha : ascP xs 0 7) :
    Calls Try.prog 14 #[v] w fun e w' => e = .returned (.int .i64 (orL xs)) ∧ Below w.heap.size w w' := by
  have CA := dHide (ascBelow_any v xs 8 w hv)
  obtain ⟨h0, a, cap, rfl, -, hv⟩ := hv
  have HV := dHide hv
  have HA := dHide ha
  clear hv ha hi
  go_enter Try.func14, Try.ntmps14
  go_wp2_with fail
  refine (dUnhide CA).mono ?_
  rintro e w1 ⟨hr, rfl⟩
  obtain rfl := hr.of_yes (dUnhide HA)
  clear hr CA
  go_wp2
  go_loop [3, 11] (fun o x => ∃ k : Nat, x = .int .i64 (k : Int) ∧ k ≤ xs.length ∧ o = .int .i64 (orL (xs.take k))) (fun _ x => xs.length - (intOf x).toNat)
  case atStart => exact ⟨0, rfl, Nat.zero_le _, rfl⟩
  case round =>
    obtain ⟨k, rfl, hk, rfl⟩ := hrel
    by_cases hlt : (k : Int) < (xs.length : Int)
    · obtain ⟨b, off, rfl, hc⟩ : ∃ b off, a = some ⟨b, off, none⟩ ∧ ∀ i (h : i < xs.length), w1.cell? ⟨b, off + i, none⟩ = some (.int .i64 xs[i]) := orN_of_lt (dUnhide HV) (k := k) (by omega)
      have hkl : k < xs.length := by omega
      have e1 := dHide (orL_take xs k hkl)
      obtain ⟨q1, q2, -⟩ := dUnhide HA k hkl
      obtain ⟨d, hd⟩ := Int.eq_ofNat_of_zero_le q1
      have c1 : w1.cell? ⟨b, off + k, none⟩ = some (.int .i64 (d : Int)) := by rw [← hd]; exact hc k hkl
      have hd7 : (d : Int) ≤ 7 := by omega
      rw [hd] at e1
      generalize orL (xs.take k) = y at *
      clear hc HV HA hd q1 q2
      have hw : wrap64 ((2 : Int) ^ d) = 2 ^ d := pow8 d (by omega)
      have e2 : Hid (bits .or .i64 y (2 ^ d) = orL (xs.take (k + 1))) := by rw [Hid, dUnhide e1]; rfl
      clear e1
      go_wp2
      go_round
      case rel => exact ⟨k + 1, by go_num, by omega, by rw [← dUnhide e2]⟩
      case measure => simp [intOf]; omega
    · have e1 : xs.take k = xs := List.take_of_length_le (by omega)
      rw [e1]
      clear e1 HV HA
      go_wp2
      go_ret
      exact ⟨rfl, Below.refl _ _⟩
theorem implNodesMask_no (v : Value) (xs : List Int) (w : World) (hv : Ns w v xs) (hi : allInt xs) (hl : xs.length ≤ 1048576) (ha : ¬ ascP xs 0 7) :
    Calls Try.prog 14 #[v] w fun e w' => e = .returned (.int .i64 (-1)) ∧ Below w.heap.size w w' := by
  have CA := dHide (ascBelow_any v xs 8 w hv)
  obtain ⟨h0, a, cap, rfl, -, hv⟩ := hv
  have HA := dHide ha
  clear hv ha hi
  go_enter Try.func14, Try.ntmps14
  go_wp2_with fail
  refine (dUnhide CA).mono ?_
  rintro e w1 ⟨hr, rfl⟩
  obtain rfl := hr.of_no (dUnhide HA)
  clear hr CA
  go_wp2
  go_ret
  exact ⟨rfl, Below.refl _ _⟩
/-- A node of a list. -/
abbrev NodeOf (xs : List Int) := { x : Int // x ∈ xs }
/-- The cells of the blocks below n₀ stay. -/
def KeepC (n₀ : Nat) (W W' : World) : Prop := ∀ (p : Addr) (v : Value), p.block < n₀ → W.cell? p = some v → W'.cell? p = some v
theorem KeepC.refl (n₀ : Nat) (W : World) : KeepC n₀ W W := fun _ _ _ h => h
theorem KeepC.trans {n₀ : Nat} {A B C : World} (h : KeepC n₀ A B) (k : KeepC n₀ B C) : KeepC n₀ A C := fun p v hp hc => k p v hp (h p v hp hc)
theorem KeepC.drew {n₀ : Nat} {A B : World} (h : KeepC n₀ A B) : KeepC n₀ A B.drew := fun p v hp hc => h p v hp hc
theorem keepC_b {n₀ : Nat} {w : World} (hn : n₀ ≤ w.heap.size) (W : World) (l : Nat) (o o' : Obj) (hl : w.heap.size ≤ l) (h : W.heap[l]? = some o) (_ : o.isCells = false) (_ : o.isWalk = false) : KeepC n₀ W (W.putObj l o') := fun p v hp hc =>
  (World.cell?_of_block (w' := W.putObj l o') (a := p) (World.putObj_heap_other (fun e => by omega))).trans hc
theorem keepC_below {n₀ : Nat} {A B : World} (h : Below A.heap.size A B) : KeepC n₀ A B := fun p v _ hc => (h.cell (p := p) (World.block_lt_of_cell? A p hc)).trans hc
theorem keepC_set {n₀ b : Nat} {xs : List Int} {A B : World} (hs : SetN A b xs) (h : A.grownBy B (some b)) : KeepC n₀ A B := fun p v _ hc => hs.cells h hc
set_option maxRecDepth 100000 in
set_option maxHeartbeats 4000000 in
theorem around1_in (n : Nat) (l Bs Bf n₀ b off cap : Nat) (xs : List Int) (fr : Nat) (hlen : xs.length ≤ 1048576) (hfr : fr ≤ 9223372036854775807) (J Jx : List (NodeOf xs) → World → Prop) (hJd : ∀ pre W, J pre W → J pre W.drew)
    (hY : ∀ pre x W, J pre W → pre.length < xs.length → YieldAt Fence.wide (n - 1) Try.prog l #[.int .i64 x.1] W fun e W' =>
      (e = .returned (.bool true) ∧ J (pre ++ [x]) W' ∧ KeepC n₀ W W') ∨ (e = .returned (.bool false) ∧ Jx (pre ++ [x]) W'))
    (W : World) (hB : Bs < n₀) (hBf : Bf < n₀) (hb0 : b < n₀) (hc : W.cell? ⟨Bs, 0, none⟩ = some (.slice (some ⟨b, off, none⟩) xs.length cap)) (hcf : W.cell? ⟨Bf, 0, none⟩ = some (.int .i64 (fr : Int)))
    (hx : ∀ i (h : i < xs.length), W.cell? ⟨b, off + i, none⟩ = some (.int .i64 xs[i])) (h0 : J [] W) :
    CallsIn Fence.wide n Try.prog 56 #[.func (.yield l) #[] #[], .pointer (some ⟨Bs, 0, none⟩), .pointer (some ⟨Bf, 0, none⟩)] W fun e W' => (∃ v, e = .returned v) ∧
      ((∃ ys, ys.map Subtype.val = rotL xs (fr % xs.length) ∧ J ys W') ∨ (∃ pre, pre.map Subtype.val <+: rotL xs (fr % xs.length) ∧ Jx pre W')) := by
  refine callsIn_of_wp Try.func56 rfl trivial ?_ rfl
  simp only [Try.ntmps56, List.size_toArray, List.length_cons, List.length_nil, Nat.reduceAdd, Nat.reduceSub, Array.replicate_succ, Array.replicate_zero, List.push_toArray, List.append_toArray, List.nil_append, List.cons_append]
  have HX := dHide hx
  clear hx
  gi_wp2
  gi_loopw [8] (fun i wr => ∃ (k : Nat) (pre : List (NodeOf xs)), i = .int .i64 (k : Int) ∧ k ≤ xs.length ∧ Hid (pre.map Subtype.val = (rotL xs (fr % xs.length)).take k) ∧ J pre wr ∧ KeepC n₀ W wr) (fun i _ => xs.length - (intOf i).toNat)
  case atStart => exact ⟨0, [], rfl, Nat.zero_le _, by simp [Hid], h0, KeepC.refl _ _⟩
  case round =>
    obtain ⟨k, pre, rfl, hk, hpre, hJ, hb⟩ := hrel
    have c1 : wr.cell? ⟨Bs, 0, none⟩ = some (.slice (some ⟨b, off, none⟩) xs.length cap) := hb _ _ hB hc
    have c2 : wr.cell? ⟨Bf, 0, none⟩ = some (.int .i64 (fr : Int)) := hb _ _ hBf hcf
    by_cases hlt : (k : Int) < (xs.length : Int)
    · have hkl : k < xs.length := by omega
      have hpl : pre.length = k := by
        have := congrArg List.length (dUnhide hpre)
        simp [rotL_len] at this
        omega
      have hml : (fr % xs.length + k) % xs.length < xs.length := Nat.mod_lt _ (by omega)
      have hfl : fr % xs.length < xs.length := Nat.mod_lt _ (by omega)
      have c3 : wr.cell? ⟨b, off + (fr % xs.length + k) % xs.length, none⟩ = some (.int .i64 xs[(fr % xs.length + k) % xs.length]) := hb _ _ hb0 (dUnhide HX _ hml)
      obtain ⟨x, hx⟩ : ∃ x, xs[(fr % xs.length + k) % xs.length] = x := ⟨_, rfl⟩
      have hmem : x ∈ xs := by rw [← hx]; exact List.getElem_mem hml
      have hget : Hid ((rotL xs (fr % xs.length))[k]'(by rw [rotL_len]; exact hkl) = x) := by rw [Hid, rotL_get _ _ _ hfl, hx]
      rw [hx] at c3
      obtain ⟨fn, tmps, assign, body, hy, hR⟩ := hY pre ⟨x, hmem⟩ wr.drew (hJd _ _ hJ) (by omega)
      dsimp only at hy
      have hnx : Hid ((pre ++ [(⟨x, hmem⟩ : NodeOf xs)]).map Subtype.val = (rotL xs (fr % xs.length)).take (k + 1)) := by
        rw [Hid, List.map_append, dUnhide hpre, List.take_succ_eq_append_getElem (by rw [rotL_len]; exact hkl), dUnhide hget]
        rfl
      have a1 : Hid ((fr : Int).tmod (xs.length : Int) = ((fr % xs.length : Nat) : Int)) := by rw [Hid, Int.ofNat_tmod]
      have a2 : Hid ((((fr % xs.length : Nat) : Int) + (k : Int)).tmod (xs.length : Int) = (((fr % xs.length + k) % xs.length : Nat) : Int)) := by rw [Hid, ← Int.natCast_add, Int.ofNat_tmod]
      generalize hR1 : fr % xs.length = R1 at *
      generalize hR2 : (R1 + k) % xs.length = R2 at *
      have HR1 := dHide hR1
      have A1 := dUnhide a1
      have A2 := dUnhide a2
      clear hget hx hR1 hR2 a1 a2 HX hY
      gi_wp2
      refine wpIn_wide.2 ?_
      go_region
      all_goals gi_wp2
      refine ⟨fun h => (by simp [Fence.wide] at h), hR.mono ?_⟩
      rintro e W3 (⟨rfl, hJ3, hk3⟩ | ⟨rfl, hJx3⟩)
      · gi_wp2
        go_roundw
        case rel => exact ⟨k + 1, _, by go_num, by omega, hnx, hJ3, hb.drew.trans hk3⟩
        case measure => simp [intOf]; omega
      · gi_wp2
        refine bodyPost_ret (results_none rfl _ _ _) rfl ?_
        exact ⟨⟨_, rfl⟩, .inr ⟨_, by rw [dUnhide hnx, dUnhide HR1]; exact List.take_prefix _ _, hJx3⟩⟩
    · have e1 : (rotL xs (fr % xs.length)).take k = rotL xs (fr % xs.length) := List.take_of_length_le (by rw [rotL_len]; omega)
      have hpre' : pre.map Subtype.val = rotL xs (fr % xs.length) := by rw [← e1]; exact dUnhide hpre
      clear e1 hpre
      have HP := dHide hpre'
      clear hpre'
      gi_wp2
      go_end0
      exact ⟨⟨_, rfl⟩, .inl ⟨_, dUnhide HP, hJ⟩⟩
theorem grownBy_drew (w : World) (row : Option Nat) : w.grownBy w.drew row := ⟨rfl, rfl, rfl, Nat.le_refl _, fun _ _ _ => rfl⟩
theorem around_stops (n : Nat) (Bs Bf b off cap : Nat) (xs : List Int) (fr : Nat) (hlen : xs.length ≤ 1048576) (hfr : fr ≤ 9223372036854775807) (w : World) (hB : Bs < w.heap.size) (hBf : Bf < w.heap.size) (hb0 : b < w.heap.size)
    (hc : w.cell? ⟨Bs, 0, none⟩ = some (.slice (some ⟨b, off, none⟩) xs.length cap)) (hcf : w.cell? ⟨Bf, 0, none⟩ = some (.int .i64 (fr : Int))) (hx : ∀ i (h : i < xs.length), w.cell? ⟨b, off + i, none⟩ = some (.int .i64 xs[i])) :
    SeqStopsK Fence.wide n Try.prog 56 #[.pointer (some ⟨Bs, 0, none⟩), .pointer (some ⟨Bf, 0, none⟩)] (fun x : NodeOf xs => #[Value.int .i64 x.1]) (KeepC w.heap.size) (fun ys => ys.map Subtype.val = rotL xs (fr % xs.length)) (fun pre => pre.map Subtype.val <+: rotL xs (fr % xs.length)) xs.length w := fun l J Jx W hW hJ _ hY h0 =>
  around1_in n l Bs Bf w.heap.size b off cap xs fr hlen hfr J Jx (fun pre W1 h => hJ pre W1 W1.drew none h (grownBy_drew _ _) (fun r e => by cases e)) hY W hB hBf hb0 ((hW.cell (p := ⟨Bs, 0, none⟩) hB).trans hc) ((hW.cell (p := ⟨Bf, 0, none⟩) hBf).trans hcf)
    (fun i h => (hW.cell (p := ⟨b, off + i, none⟩) hb0).trans (hx i h)) h0
set_option maxHeartbeats 1000000 in
theorem around_in (n : Nat) (a : Option Addr) (len cap : Nat) (fr : Int) (w : World) :
    CallsIn Fence.wide n Try.prog 40 #[.slice a len cap, .int .i64 fr] w fun e w' => e = .returned (.func (.func 56) #[] #[.pointer (some ⟨w.heap.size, 0, none⟩), .pointer (some ⟨w.heap.size + 1, 0, none⟩)]) ∧ w' = (w.alloc (.cells #[.slice a len cap] 25)).alloc (.cells #[.int .i64 fr] 3) := by
  refine callsIn_of_wp Try.func40 rfl trivial ?_ rfl
  simp only [Try.ntmps40, List.size_toArray, List.length_cons, List.length_nil, Nat.reduceAdd, Nat.reduceSub, Array.replicate_succ, Array.replicate_zero, List.push_toArray, List.append_toArray, List.nil_append, List.cons_append]
  gi_wp2
  go_ret
  exact ⟨rfl, rfl⟩
end Go.Proofs.Ytofklfjomofijaa
