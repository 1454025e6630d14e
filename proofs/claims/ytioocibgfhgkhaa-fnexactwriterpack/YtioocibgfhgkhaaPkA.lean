/- Records as bytes: spec's lists of numbers. -/
import Derived.Test.YtioocibgfhgkhaaGbF
import Derived.Test.YtioocibgfhgkhaaAppB
import Derived.Test.YtioocibgfhgkhaaGaA
namespace Go.Proofs.Ytioocibgfhgkhaa
open Go.ChangeShapes Go.WideShapes Go.ChangeAt Go.RowKit
set_option linter.unusedVariables false
set_option linter.unusedSimpArgs false

/-- The numbers of a list, one behind the other. -/
def numsB (xs : List Int) : List UInt8 := xs.flatMap fun x => numB x.toNat
/-- The bytes of a list of numbers. -/
def lstB (xs : List Int) : List UInt8 := numB xs.length ++ numsB xs
theorem numsB_take (xs : List Int) (k : Nat) (h : k < xs.length) : numsB (xs.take (k + 1)) = numsB (xs.take k) ++ numB xs[k].toNat := by
  unfold numsB
  rw [List.take_succ_eq_append_getElem h, List.flatMap_append, List.flatMap_cons, List.flatMap_nil, List.append_nil]
theorem numsB_len (xs : List Int) : (numsB xs).length ≤ 9 * xs.length := by
  induction xs with
  | nil => simp [numsB]
  | cons x l ih =>
    have h := numB_len x.toNat
    unfold numsB at ih ⊢
    rw [List.flatMap_cons, List.length_append, List.length_cons]
    omega
theorem lstB_pos (xs : List Int) : 0 < (lstB xs).length := by
  have := numB_pos xs.length
  unfold lstB
  rw [List.length_append]
  omega
theorem lstB_len (xs : List Int) : (lstB xs).length ≤ 9 * xs.length + 9 := by
  have h := numB_len xs.length
  have h2 := numsB_len xs
  unfold lstB
  rw [List.length_append]
  omega
/-- The cells of a list of numbers. -/
theorem Ns.at17 {w : World} {a : Option Addr} {n cap : Nat} {xs : List Int} (h : Ns w (.slice a n cap) xs) {k : Nat} (hk : k < xs.length) : ∃ b off, a = some ⟨b, off, none⟩ ∧ ∀ i (hi : i < xs.length), w.cell? ⟨b, off + i, none⟩ = some (.int .i64 xs[i]) := by
  obtain ⟨-, a', cap', e, -, h⟩ := h
  cases e
  rcases h with h | h
  · rw [h] at hk; simp at hk
  · exact h
/-- Numbers that are not below 0. -/
def natI (xs : List Int) : Prop := ∀ x ∈ xs, 0 ≤ x ∧ x ≤ 9223372036854775807
set_option maxHeartbeats 4000000 in
theorem specList17_any (v : Value) (xs : List Int) (w : World) (hv : Ns w v xs) (h0 : natI xs) (hl : xs.length ≤ 1048576) :
    Calls Try.prog 36 #[v] w fun e w' => (∃ u, e = .returned u ∧ w'.ownsRow w.heap.size 5 1 u (lstB xs).length (bcells (lstB xs))) ∧ Below w.heap.size w w' := by
  have HV := dHide fun W (hb : Below w.heap.size w W) => hv.below hb
  obtain ⟨-, a, cap, rfl, -, -⟩ := hv
  have CP := dHide (put_at xs.length (by omega) w w (Below.refl _ _))
  go_enter Try.func36, Try.ntmps36
  go_wp2_with fail
  refine (dUnhide CP).mono ?_
  rintro e w1 ⟨g1, c1, rfl, o1, r1, b1⟩
  have l1 := numB_len xs.length
  have ES : Hid (lstB xs = numB xs.length ++ numsB xs) := rfl
  have LP := dHide (numB_pos xs.length)
  have HO := dHide o1
  generalize numB xs.length = pre at *
  clear CP r1 o1
  go_wp2
  go_loopw [3, 4] (fun o x wr => ∃ k : Nat, x = .int .i64 (k : Int) ∧ k ≤ xs.length ∧ wr.ownsRow w.heap.size 5 1 o (pre ++ numsB (xs.take k)).length (bcells (pre ++ numsB (xs.take k))) ∧ Below w.heap.size w wr) (fun _ x _ => xs.length - (intOf x).toNat)
  case atStart => exact ⟨0, rfl, Nat.zero_le _, by simpa [numsB] using dUnhide HO, b1⟩
  case round =>
    clear HO b1
    obtain ⟨k, rfl, hk, ho, hb⟩ := hrel
    by_cases hlt : (k : Int) < (xs.length : Int)
    · have hkl : k < xs.length := by omega
      obtain ⟨b, off, rfl, hc⟩ := (dUnhide HV wr hb).at17 hkl
      have c0 := hc k hkl
      have hS := dHide (numsB_take xs k hkl)
      have hx0 := h0 _ (List.getElem_mem hkl)
      have hfl := numsB_len (xs.take k)
      rw [List.length_take] at hfl
      generalize xs[k] = y at *
      generalize numsB (xs.take k) = FK at *
      obtain ⟨n, rfl⟩ := Int.eq_ofNat_of_zero_le hx0.1
      rw [Int.toNat_natCast] at hS
      have hpp := numB_pos n
      have hp9 := numB_len n
      have CP := dHide (put_at n (by omega) w wr hb)
      have HOB := dHide ho
      clear hc ho
      go_wp2_with fail
      refine (dUnhide CP).mono ?_
      rintro e w2 ⟨g2, c2, rfl, o2, r2, b2⟩
      have ho2 := own_kept (dUnhide HOB) r2
      clear CP HOB r2 c0 hb
      go_wp2_with (at_builtin; refine app8 _ rfl _ _ rfl w.heap.size _ (pre ++ FK) rfl ho2 ⟨g2, 0, none⟩ _ _ (numB n) rfl rfl (o2.cells rfl) ?c3 b2.size ?_)
      case c3 => simp only [List.length_append]; omega
      intro v3 w3 o3 r3
      have hb3 := b2.grown r3 b2.size (fun j hj => (ho2.lt j hj).1)
      have hrel : Hid (w3.ownsRow w.heap.size 5 1 v3 (pre ++ numsB (xs.take (k + 1))).length (bcells (pre ++ numsB (xs.take (k + 1))))) := by
        rw [Hid, dUnhide hS]
        first | exact own_len8 o3 | exact own_len8 (by rw [← List.append_assoc]; exact o3)
      clear o3 r3 ho2 o2 b2
      go_wp2
      go_roundw
      case rel => exact ⟨k + 1, by go_num, by omega, dUnhide hrel, hb3⟩
      case measure => simp [intOf]; omega
    · have e1 : xs.take k = xs := List.take_of_length_le (by omega)
      rw [e1] at ho
      have Q := dHide ho
      clear e1 ho
      go_wp2
      go_ret
      refine ⟨⟨_, rfl, ?_⟩, hb⟩
      rw [dUnhide ES]
      exact dUnhide Q
end Go.Proofs.Ytioocibgfhgkhaa
