/- Put in order, whatever is there. -/
import Derived.Test.YtjbfpmackocgnaaGreatChoB
namespace Go.Proofs.YtjbfpmackocgnaaGreat
open Go.ChangeShapes Go.WideShapes Go.ChangeAt Go.RowKit
set_option linter.unusedVariables false
set_option linter.unusedSimpArgs false

/-- The list with y in its place. -/
def putL (y : Int) (xs : List Int) : List Int := if y ∈ xs then xs else putA y xs
theorem putL_len (y : Int) (xs : List Int) : (putL y xs).length ≤ xs.length + 1 := by
  unfold putL
  split
  · omega
  · rw [putA_len]; omega
theorem mem_putL {y x : Int} {xs : List Int} : x ∈ putL y xs ↔ x = y ∨ x ∈ xs := by
  unfold putL
  split
  · rename_i h
    constructor
    · exact .inr
    · rintro (rfl | h')
      · exact h
      · exact h'
  · exact mem_putA
theorem putL_asc {y : Int} {l : List Int} (h : l.Pairwise (· < ·)) : (putL y l).Pairwise (· < ·) := by
  unfold putL
  split
  · exact h
  · rename_i hy
    exact putA_asc h hy
set_option maxHeartbeats 1000000 in
theorem l4Put_old (v : Value) (xs : List Int) (y : Int) (w : World) (hv : Ns w v xs) (hl : xs.length ≤ 2000000) (hy : y ∈ xs) :
    Calls Tryz.prog 54 #[v, .int .i64 y] w fun e w' => (∃ u, e = .returned u ∧ w'.ownsRow w.heap.size 3 1 u xs.length (ncells xs)) ∧ Below w.heap.size w w' := by
  have CH := dHide fun W (hb : Below w.heap.size w W) => l4Has_any v xs y W (hv.below hb)
  obtain ⟨h0, a, cap, rfl, -, hu⟩ := hv
  have HU := dHide hu
  clear hu
  go_enter Tryz.func54, Tryz.ntmps54
  go_wp2_with fail
  refine (dUnhide CH _ ((Below.refl _ _).alloc (Nat.le_refl _) _)).mono ?_
  rintro e w1 ⟨hr, rfl⟩
  obtain rfl := hr.of_yes hy
  clear hr CH hy
  go_wp2
  go_loopw [5, 6, 7] (fun o q x wr => ∃ (k : Nat), x = .int .i64 (k : Int) ∧ q = .bool true ∧ k ≤ xs.length ∧ wr.ownsRow w.heap.size 3 1 o (xs.take k).length (ncells (xs.take k)) ∧ Below w.heap.size w wr) (fun _ _ x _ => xs.length - (intOf x).toNat)
  case atStart => exact ⟨0, rfl, rfl, Nat.zero_le _, World.ownsRow_made w #[] 0 (Nat.le_refl _) (by decide) (by simp), (Below.refl _ _).alloc (Nat.le_refl _) _⟩
  case round =>
    obtain ⟨k, rfl, rfl, hk, hown, hb⟩ := hrel
    have hlt' := hown.lt
    have hz : (xs.take k).length ≤ k := by rw [List.length_take]; omega
    by_cases hlt : (k : Int) < (xs.length : Int)
    · obtain ⟨b, off, rfl, hc⟩ : ∃ b off, a = some ⟨b, off, none⟩ ∧ ∀ i (h : i < xs.length), w.cell? ⟨b, off + i, none⟩ = some (.int .i64 xs[i]) := orN_of_lt (dUnhide HU) (k := k) (by omega)
      have hkl : k < xs.length := by omega
      have c1 : wr.cell? ⟨b, off + k, none⟩ = some (.int .i64 xs[k]) := (hb.cell (p := ⟨b, off + k, none⟩) (dCell_lt (hc k hkl))).trans (hc k hkl)
      have hT := dHide (List.take_succ_eq_append_getElem hkl)
      generalize xs[k] = x at *
      clear hc
      obtain ⟨zs, hzs⟩ : ∃ zs, zs = xs.take k := ⟨_, rfl⟩
      rw [← hzs] at hown hT hz
      have HZ := dHide hzs
      clear hzs
      go_wp2_with (at_builtin; refine appN _ rfl _ _ rfl w.heap.size _ zs rfl (hown.alloc _) ⟨wr.heap.size, 0, none⟩ 1 1 [x] rfl rfl (one_int _ _ _) ?c3 ?c4 ?_)
      case c3 => (try simp only [List.length_append, List.length_cons, List.length_nil]); omega
      case c4 => have := hb.size; simp; omega
      intro v' w2 hown' hgrow
      have hb2 : Below w.heap.size w w2 := (hb.alloc hb.size _).grown hgrow (by have := hb.size; simp; omega) (fun k hk => (hlt' k hk).1)
      have hown2 := own_lenN hown'
      rw [← dUnhide hT] at hown2
      clear hown hown' hgrow hb hlt' c1
      go_wp2
      go_roundw
      case rel => exact ⟨k + 1, by go_num, rfl, by omega, hown2, hb2⟩
      case measure => simp [intOf]; omega
    · have e1 : xs.take k = xs := List.take_of_length_le (by omega)
      rw [e1] at hown
      clear e1 HU
      go_wp2
      go_ret
      exact ⟨⟨_, rfl, hown⟩, hb⟩
theorem l4Put_all (v : Value) (xs : List Int) (y : Int) (w : World) (hv : Ns w v xs) (hl : xs.length ≤ 2000000) :
    Calls Tryz.prog 54 #[v, .int .i64 y] w fun e w' => (∃ u, e = .returned u ∧ OwnN w' w.heap.size u (putL y xs)) ∧ Below w.heap.size w w' := by
  by_cases hy : y ∈ xs
  · rw [show putL y xs = xs from if_pos hy]
    exact (l4Put_old v xs y w hv hl hy).mono fun e w' ⟨⟨u, h1, h2⟩, h3⟩ => ⟨⟨u, h1, ownN_of_row h2⟩, h3⟩
  · rw [show putL y xs = putA y xs from if_neg hy]
    exact (l4Put_new v xs y w hv hl hy).mono fun e w' ⟨⟨u, h1, h2⟩, h3⟩ => ⟨⟨u, h1, ownN_of_row h2⟩, h3⟩
end Go.Proofs.YtjbfpmackocgnaaGreat
