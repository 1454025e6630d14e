/- spec's l4Less. -/
import Derived.Test.YtgedaaknkhkegaaDomB
namespace Go.Proofs.Ytgedaaknkhkegaa
open Go.ChangeShapes Go.WideShapes Go.ChangeAt Go.RowKit
set_option linter.unusedVariables false

/-- Those of a list that are not in another one. -/
def lessL (set list : List Int) : List Int := set.filter fun x => !(list.contains x)
theorem lessL_yes (set list : List Int) (k : Nat) (h : k < set.length) (hx : set[k] ∈ list) : lessL (set.take (k + 1)) list = lessL (set.take k) list := by
  have e : (!(list.contains set[k])) = false := by simpa using hx
  rw [lessL, List.take_succ_eq_append_getElem h, List.filter_append]
  simp only [List.filter_cons, List.filter_nil, e]
  simp [lessL]
theorem lessL_no (set list : List Int) (k : Nat) (h : k < set.length) (hx : ¬ set[k] ∈ list) : lessL (set.take (k + 1)) list = lessL (set.take k) list ++ [set[k]] := by
  have e : (!(list.contains set[k])) = true := by simpa using hx
  rw [lessL, List.take_succ_eq_append_getElem h, List.filter_append]
  simp only [List.filter_cons, List.filter_nil, e]
  simp [lessL]
theorem lessL_len (set list : List Int) : (lessL set list).length ≤ set.length := List.length_filter_le _ _
theorem own_lenN {w : World} {B n : Nat} {v : Value} {l : List Int} (h : w.ownsRow B 3 1 v n (ncells l)) : w.ownsRow B 3 1 v l.length (ncells l) := by
  have e : l.length = n := by have := h.1; simpa [ncells] using this
  rw [e]; exact h
set_option maxHeartbeats 2000000 in
theorem l4Less_any (u v : Value) (set list : List Int) (w : World) (hu : Ns w u set) (hv : Ns w v list) (hl : set.length ≤ 1000000000) :
    Calls Try.prog 42 #[u, v] w fun e w' => (∃ o, e = .returned o ∧ w'.ownsRow w.heap.size 3 1 o (lessL set list).length (ncells (lessL set list))) ∧ Below w.heap.size w w' := by
  have CH := dHide fun W y (hb : Below w.heap.size w W) => l4Has_any v list y W (hv.below hb)
  obtain ⟨h0, a, cap, rfl, -, hu⟩ := hu
  have HU := dHide hu
  clear hu hv
  go_enter Try.func42, Try.ntmps42
  go_wp2
  go_loopw [5, 6] (fun o x wr => ∃ k : Nat, x = .int .i64 (k : Int) ∧ k ≤ set.length ∧ wr.ownsRow w.heap.size 3 1 o (lessL (set.take k) list).length (ncells (lessL (set.take k) list)) ∧ Below w.heap.size w wr) (fun _ x _ => set.length - (intOf x).toNat)
  case atStart => exact ⟨0, rfl, Nat.zero_le _, World.ownsRow_made w #[] 0 (Nat.le_refl _) (by decide) (by simp), (Below.refl _ _).alloc (Nat.le_refl _) _⟩
  case round =>
    obtain ⟨k, rfl, hk, hown, hb⟩ := hrel
    by_cases hlt : (k : Int) < (set.length : Int)
    · obtain ⟨b, off, rfl, hc⟩ : ∃ b off, a = some ⟨b, off, none⟩ ∧ ∀ i (h : i < set.length), w.cell? ⟨b, off + i, none⟩ = some (.int .i64 set[i]) := orN_of_lt (dUnhide HU) (k := k) (by omega)
      have hkl : k < set.length := by omega
      have c1 : wr.cell? ⟨b, off + k, none⟩ = some (.int .i64 set[k]) := (hb.cell (p := ⟨b, off + k, none⟩) (dCell_lt (hc k hkl))).trans (hc k hkl)
      have LY := dHide (lessL_yes set list k hkl)
      have LN := dHide (lessL_no set list k hkl)
      have hlen := lessL_len (set.take k) list
      have htl : (set.take k).length ≤ set.length := by rw [List.length_take]; omega
      generalize set[k] = x at *
      clear hc
      generalize lessL (set.take k) list = L at *
      have hlt' := hown.lt
      go_wp2_with fail
      refine (dUnhide CH _ _ hb).mono ?_
      rintro e w1 ⟨⟨bb, rfl, hbb⟩, rfl⟩
      cases bb
      · have hx : ¬ x ∈ list := fun h => by have := hbb.2 h; cases this
        have e1 := dHide (dUnhide LN hx)
        clear hbb hx LY LN HU
        go_wp2_with (at_builtin; refine appN _ rfl _ _ rfl w.heap.size _ L rfl (hown.alloc _) ⟨w1.heap.size, 0, none⟩ 1 1 [x] rfl rfl (one_int _ _ _) ?c3 ?c4 ?_)
        case c3 => simp; omega
        case c4 => have := hb.size; simp; omega
        intro v' w2 hown' hgrow
        have hb2 : Below w.heap.size w w2 := (hb.alloc hb.size _).grown hgrow (by have := hb.size; simp; omega) (fun k hk => (hlt' k hk).1)
        have hown2 := own_lenN hown'
        clear hown hown' hgrow hb hlt' c1
        go_wp2
        go_roundw
        case rel => exact ⟨k + 1, by go_num, by omega, by rw [dUnhide e1]; exact hown2, hb2⟩
        case measure => simp [intOf]; omega
      · have hx : x ∈ list := hbb.1 rfl
        have e1 := dHide (dUnhide LY hx)
        clear hbb hx LY LN HU
        go_wp2
        go_roundw
        case rel => exact ⟨k + 1, by go_num, by omega, by rw [dUnhide e1]; exact hown, hb⟩
        case measure => simp [intOf]; omega
    · have e1 : set.take k = set := List.take_of_length_le (by omega)
      rw [e1] at hown
      clear e1 HU
      go_wp2
      go_ret
      exact ⟨⟨_, rfl, hown⟩, hb⟩
end Go.Proofs.Ytgedaaknkhkegaa
