/- impl's copyEntries, Store.copied, Store.unchanged, Store.refuses. -/
import Derived.Test.YtoeamgcoeoaijaaImFe
import Derived.Test.YtoeamgcoeoaijaaCpP
import Derived.Test.YtoeamgcoeoaijaaGbE
import Derived.Test.YtoeamgcoeoaijaaStE
namespace Go.Proofs.Ytoeamgcoeoaijaa
open Go.ChangeShapes Go.WideShapes Go.ChangeAt Go.RowKit
set_option linter.unusedVariables false
set_option linter.unusedSimpArgs false
set_option maxRecDepth 100000

theorem zerosE_len (n : Nat) : (zerosE n).toList.length = n * 4 := by rw [Array.length_toList]; exact size_madeCells _ _
set_option maxHeartbeats 4000000 in
theorem copyEntries_any (v : Value) (es : List Ent) (w : World) (hv : Rw 4 Ent.cl w v es) (hl : es.length ≤ 1048576) :
    Calls Try.prog 89 #[v] w fun r w' => (∃ u, r = .returned u ∧ ApE w' w.heap.size u es) ∧ Below w.heap.size w w' := by
  have hlen : (fcells Ent.cl es).length = es.length * 4 := fcells_len elemE.len es
  have hw := MapKept.heap_alloc w (.cells (zerosE es.length) 33)
  have HR : Hid ((w.alloc (.cells (zerosE es.length) 33)).heap[w.heap.size]? = some (.cells (zerosE es.length).toList.toArray 33 (0, 0))) := by
    show _ = _
    simpa using hw.1
  have hB : Below w.heap.size w (w.alloc (.cells (zerosE es.length) 33)) := (Below.refl _ _).alloc (Nat.le_refl _) _
  have hv1 := hv.below hB
  obtain ⟨-, a, c, rfl, hac, -⟩ := id hv1
  have HS : Hid (0 < (fcells Ent.cl es).length → ∃ ad, a = some ad ∧ ∀ j u, (fcells Ent.cl es)[j]? = some u → (w.alloc (.cells (zerosE es.length) 33)).cell? (ad.add j) = some u) := fun h0 => by
    obtain ⟨-, a', c', e, -, h⟩ := hv1
    cases e
    obtain ⟨b, off, rfl, hc⟩ := orR_of_lt h (k := 0) (by omega)
    exact ⟨_, rfl, rw_news elemE hc⟩
  have HZ := dHide (zerosE_len es.length)
  have o1 := dHide (fcells_one elemE es)
  have FIN : Hid (∀ w', w'.heap[w.heap.size]? = some (.cells (splice (zerosE es.length).toList 0 (fcells Ent.cl es)).toArray 33 (0, 0)) → (w.alloc (.cells (zerosE es.length) 33)).grownBy w' (some w.heap.size) → (∃ u, Ending.returned (.slice (some ⟨w.heap.size, 0, none⟩) es.length es.length) = .returned u ∧ ApE w' w.heap.size u es) ∧ Below w.heap.size w w') := fun w' h1 h2 => by
    have e : splice (zerosE es.length).toList 0 (fcells Ent.cl es) = fcells Ent.cl es := by
      unfold splice
      rw [List.drop_eq_nil_of_le (by rw [zerosE_len, hlen]; omega)]
      simp
    rw [e] at h1
    refine ⟨⟨_, rfl, .inr ⟨hlen, .inr ⟨w.heap.size, es.length, _, rfl, Nat.le_refl _, h1, Nat.le_refl _, by show es.length ≤ 9223372036854775807; omega, by simpa using hlen, ?_⟩⟩⟩, hB.grown h2 hB.size (fun k hk => by cases hk; exact Nat.le_refl _)⟩
    simp [← hlen]
  have mk := fun W => makeE es.length (by omega) W
  generalize (zerosE es.length).toList = ZL at *
  generalize hF : fcells Ent.cl es = FC at *
  generalize es.length = n at *
  clear hv hv1 hw hF
  go_enter Try.func89, Try.ntmps89
  go_wp2_with (refine wp_copyK rfl _ _ 26 26 rfl 33 4 elemE.under (by kernel_rfl) (by decide) _ _ _ _ _ _ rfl rfl w.heap.size 0 ZL 33 (dUnhide HR) FC (by rw [show Nat.min n n = n from Nat.min_self n]; exact hlen) (fun h => ⟨rfl, dUnhide HS h⟩) (by rw [dUnhide HZ, hlen]; omega) (dUnhide o1) ?_; intro W2 R2 G2; have F := dHide (dUnhide FIN W2 (dUnhide R2) (dUnhide G2)); clear R2 G2)
  go_ret
  exact dUnhide F
theorem sep_symm {u v : Value} (h : touch u = none ∨ touch u ≠ touch v) : touch v = none ∨ touch v ≠ touch u := by
  by_cases hv : touch v = none
  · exact .inl hv
  · right
    intro e
    rcases h with h | h
    · exact hv (e.trans h)
    · exact h e.symm
end Go.Proofs.Ytoeamgcoeoaijaa
