/- impl's sets: setOf, has, within, without. -/
import Derived.Test.YtognmmmplmideaaSetP
namespace Go.Proofs.Ytognmmmplmideaa
open Go.ChangeShapes Go.WideShapes Go.ChangeAt Go.RowKit
set_option linter.unusedVariables false

/-- Each number of a list once. -/
def dedL (xs : List Int) : List Int := xs.foldl addD []
theorem dedL_take (xs : List Int) (k : Nat) (h : k < xs.length) : dedL (xs.take (k + 1)) = addD (dedL (xs.take k)) xs[k] := by
  rw [dedL, List.take_succ_eq_append_getElem h, List.foldl_append]
  rfl
theorem dedL_len (xs : List Int) (k : Nat) (h : k ≤ xs.length) : (dedL (xs.take k)).length ≤ k := by
  induction k with
  | zero => simp [dedL]
  | succ n ih =>
    rw [dedL_take xs n (by omega)]
    have := addD_len (dedL (xs.take n)) xs[n]
    have := ih (by omega)
    omega
theorem foldl_addD_new (xs : List Int) : ∀ acc : List Int, xs.Nodup → (∀ x ∈ xs, x ∉ acc) → xs.foldl addD acc = acc ++ xs := by
  induction xs with
  | nil => intro acc _ _; simp
  | cons a l ih =>
    intro acc hn hd
    have ha : addD acc a = acc ++ [a] := by
      unfold addD
      rw [if_neg (by simpa using hd a (by simp))]
    rw [List.foldl_cons, ha, ih _ (List.nodup_cons.1 hn).2 (fun x hx => by
      have h1 := hd x (by simp [hx])
      have h2 : x ≠ a := fun e => (List.nodup_cons.1 hn).1 (e ▸ hx)
      simp [h1, h2])]
    simp
theorem dedL_nodup {xs : List Int} (h : xs.Nodup) : dedL xs = xs := by
  have := foldl_addD_new xs [] h (fun x _ => by simp)
  simpa [dedL] using this
set_option maxHeartbeats 2000000 in
theorem setOf_any (v : Value) (xs : List Int) (w : World) (hv : Ns w v xs) (ha : allInt xs) (hl : xs.length ≤ 1048576) :
    Calls Try.prog 115 #[v] w fun e w' => e = .returned (.map (some w.heap.size)) ∧ SetN w' w.heap.size (dedL xs) ∧ Below w.heap.size w w' := by
  obtain ⟨h0, a, cap, rfl, -, hv⟩ := hv
  have HV := dHide hv
  have HA := dHide ha
  clear hv ha
  have hmm := @run_makeMap Try.prog
  go_enter Try.func115, Try.ntmps115
  go_wp2
  go_loopw [9] (fun x wr => ∃ k : Nat, x = .int .i64 (k : Int) ∧ k ≤ xs.length ∧ SetN wr w.heap.size (dedL (xs.take k)) ∧ Below w.heap.size w wr) (fun x _ => xs.length - (intOf x).toNat)
  case atStart => exact ⟨0, rfl, Nat.zero_le _, SetN.made w, (Below.refl _ _).alloc (Nat.le_refl _) _⟩
  case round =>
    obtain ⟨k, rfl, hk, hset, hb⟩ := hrel
    by_cases hlt : (k : Int) < (xs.length : Int)
    · obtain ⟨b, off, rfl, hc⟩ : ∃ b off, a = some ⟨b, off, none⟩ ∧ ∀ i (h : i < xs.length), w.cell? ⟨b, off + i, none⟩ = some (.int .i64 xs[i]) := orN_of_lt (dUnhide HV) (k := k) (by omega)
      have hkl : k < xs.length := by omega
      have c1 : wr.cell? ⟨b, off + k, none⟩ = some (.int .i64 xs[k]) := (hb.cell (p := ⟨b, off + k, none⟩) (dCell_lt (hc k hkl))).trans (hc k hkl)
      have hz := dHide (dUnhide HA xs[k] (List.getElem_mem hkl))
      have e1 := dHide (dedL_take xs k hkl)
      have hlen := dedL_len xs k hk
      generalize xs[k] = x at *
      generalize dedL (xs.take k) = L at *
      clear hc HV HA
      go_wp2_with (first
        | (at_mapUpdate; refine wp_setPut _ rfl _ _ _ rfl w.heap.size L x rfl hset rfl (dUnhide hz) rfl (by omega) ?_; intro w1 hset1 hg1)
        | go_in)
      have hb1 : Below w.heap.size w w1 := hb.grown hg1 hb.size (fun j hj => by cases hj; exact Nat.le_refl _)
      clear hset hg1 c1 hb
      go_wp2
      go_roundw
      case rel => exact ⟨k + 1, by go_num, by omega, by rw [dUnhide e1]; exact hset1, hb1⟩
      case measure => simp [intOf]; omega
    · have e1 : xs.take k = xs := List.take_of_length_le (by omega)
      rw [e1] at hset
      clear e1 HV HA
      go_wp2
      go_ret
      exact ⟨rfl, hset, hb⟩
end Go.Proofs.Ytognmmmplmideaa
