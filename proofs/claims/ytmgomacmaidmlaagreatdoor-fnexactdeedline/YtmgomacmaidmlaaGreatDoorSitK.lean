/- Rows whose elements have lists of their own: built, written, marked. -/
import Derived.Test.YtmgomacmaidmlaaGreatDoorNsP
import Derived.Test.YtmgomacmaidmlaaGreatDoorBoxP
namespace Go.Proofs.YtmgomacmaidmlaaGreatDoor
open Go.ChangeShapes Go.WideShapes Go.ChangeAt Go.RowKit
set_option linter.unusedVariables false
set_option linter.unusedSimpArgs false
set_option maxRecDepth 100000

/-- What lies apart is owned as a whole. -/
theorem OwK.build {α : Type} {sz : Nat} {sub : α → List Int} {cl : Nst α → List Value} {w : World} {lo hi b off n cap : Nat} {f : Nat → Nst α} (h : RowG sz cl w b off n f) (hb : lo ≤ b) (hbl : n = 0 ∨ b < hi) (hn : n ≤ cap ∧ cap ≤ 9223372036854775807)
    (hs : ∀ i, i < n → OwN lo hi (Sv sub (f i)) (sub (f i).m) w) (hd : ∀ i j, i < n → j < n → i ≠ j → sub (f i).m = [] ∨ sub (f j).m = [] ∨ blockOf (Sv sub (f i)) ≠ blockOf (Sv sub (f j))) (hr : ∀ i, i < n → sub (f i).m = [] ∨ blockOf (Sv sub (f i)) ≠ b) :
    OwK sz sub cl lo hi (.slice (some ⟨b, off, none⟩) n cap) ((List.range n).map fun i => (f i).m) w := by
  have hl : ((List.range n).map f).length = n := by simp
  have hq := h.own (es := (List.range n).map f) (base := lo) (cap := cap) hl.symm (fun i hi => by simp) hb (by omega) (by omega)
  rw [hl] at hq
  refine ⟨(List.range n).map f, by simp, hq, ?_, fun p hp => ?_, fun i j hi hj hij => ?_, fun i hi => ?_⟩
  · rcases hbl with h | h
    · left; subst h; rfl
    · exact .inr h
  · obtain ⟨i, hi, rfl⟩ := List.mem_map.1 hp
    exact hs i (List.mem_range.1 hi)
  · have e1 : ((List.range n).map f)[i] = f i := by simp
    have e2 : ((List.range n).map f)[j] = f j := by simp
    rw [e1, e2]
    exact hd i j (by omega) (by omega) hij
  · have e1 : ((List.range n).map f)[i] = f i := by simp
    rw [e1]
    exact hr i (by omega)
theorem range_map_m {α : Type} {n : Nat} {f : Nat → Nst α} {ms : List α} (hl : n = ms.length) (h : ∀ i (hi : i < ms.length), (f i).m = ms[i]) : ((List.range n).map fun i => (f i).m) = ms := by
  subst hl
  apply List.ext_getElem
  · simp
  · intro i h1 h2
    simp [h i h2]
theorem Bx.farB {w : World} {b b' o : Nat} {vs : List Value} (h : Bx w b vs) (hb : b ≠ b') (u : Value) : Bx (w.setCell ⟨b', o, none⟩ u) b vs := fun i v hv => set_other (h i v hv) (.inl hb)
theorem OwK.far {α : Type} {sz : Nat} {sub : α → List Int} {cl : Nst α → List Value} {lo hi b o : Nat} {v : Value} {ms : List α} {w : World} (h : OwK sz sub cl lo hi v ms w) (hb : b < lo) (u : Value) : OwK sz sub cl lo hi v ms (w.setCell ⟨b, o, none⟩ u) := by
  obtain ⟨rs, e1, e2, e3, e4, e5⟩ := h
  have hW : ∀ k, lo ≤ k → k < hi → (w.setCell ⟨b, o, none⟩ u).heap[k]? = w.heap[k]? := fun k h1 h2 => Below.heap_setCell _ _ _ k (fun e => by simp at e; omega)
  exact ⟨rs, e1, e2.sitsR e3 hW, e3, fun p hp => ⟨(e4 p hp).1.far hb _, (e4 p hp).2⟩, e5⟩
theorem OwN.wr {lo hi lo' hi' : Nat} {v : Value} {m : List Int} {w w' : World} (h : OwN lo hi v m w) (hw : Wr lo' hi' w w') (hne : m = [] ∨ blockOf v < lo' ∨ hi' ≤ blockOf v) : OwN lo hi v m w' := by
  have hlt := h.1.bs.lt
  obtain ⟨⟨h0, a, cap, rfl, hcap, h⟩, hl⟩ := h
  refine ⟨⟨h0, a, cap, rfl, hcap, ?_⟩, hl⟩
  rcases hne with hne | hne
  · exact .inl hne
  · rcases h with h | ⟨b', off, rfl, hb, hc⟩
    · exact .inl h
    · rcases hlt with hlt | hlt
      · exact .inl hlt
      · have e := hw.block b' hlt hne
        exact .inr ⟨b', off, rfl, hb, fun i hi => ⟨(World.cell?_of_block (a := ⟨b', off + i, none⟩) e).trans (hc i hi).1, (World.frozen?_of_block (a := ⟨b', off + i, none⟩) e).trans (hc i hi).2⟩⟩
theorem OwN.narrow {lo hi : Nat} {v : Value} {m : List Int} {w : World} (h : OwN lo hi v m w) (hm : m ≠ []) : OwN (blockOf v) (blockOf v + 1) v m w ∧ lo ≤ blockOf v ∧ blockOf v < hi := by
  have h1 := h.1.ge.resolve_left hm
  have h2 := h.2.resolve_left hm
  refine ⟨⟨?_, .inr (by omega)⟩, h1, h2⟩
  obtain ⟨⟨h0, a, cap, rfl, hcap, h⟩, -⟩ := h
  refine ⟨h0, a, cap, rfl, hcap, ?_⟩
  rcases h with h | ⟨b', off, rfl, hb, hc⟩
  · exact .inl h
  · exact .inr ⟨b', off, rfl, Nat.le_refl _, hc⟩
theorem OwN.wide {lo hi lo' hi' : Nat} {v : Value} {m : List Int} {w : World} (h : OwN lo hi v m w) (h1 : lo' ≤ lo) (h2 : hi ≤ hi') : OwN lo' hi' v m w := ⟨h.1.mono h1, by rcases h.2 with h | h; exact .inl h; exact .inr (by omega)⟩
theorem nil_of_len {l l' : List Int} (h : l.length = l'.length) : l = [] ↔ l' = [] := by
  rw [← List.length_eq_zero_iff, ← List.length_eq_zero_iff, h]
theorem getD_lt {α : Type} {l : List α} {i : Nat} (z : α) (h : i < l.length) : l.getD i z = l[i] := by
  rw [List.getD_eq_getElem?_getD, List.getElem?_eq_getElem h]
  rfl
theorem RowG.congr {β : Type} {sz : Nat} {cl : β → List Value} {w : World} {b off n : Nat} {f f' : Nat → β} (h : RowG sz cl w b off n f) (hf : ∀ i, i < n → f' i = f i) : RowG sz cl w b off n f' := fun i hi j u hu => h i hi j u (by rw [← hf i hi]; exact hu)
theorem Wr.setW {lo hi b o : Nat} {w wr : World} (h : Wr lo hi w wr) (h1 : lo ≤ b) (h2 : b < hi) (u : Value) : Wr lo hi w (wr.setCell ⟨b, o, none⟩ u) :=
  h.trans ⟨rfl, rfl, rfl, by simp, fun k hk hn => Below.heap_setCell _ _ _ k (fun e => by simp at e; omega)⟩
theorem OwN.putW {lo hi b o : Nat} {v : Value} {m : List Int} {w : World} (h : OwN lo hi v m w) (hne : m = [] ∨ blockOf v ≠ b) (u : Value) : OwN lo hi v m (w.setCell ⟨b, o, none⟩ u) :=
  h.wr (lo' := b) (hi' := b + 1) ⟨rfl, rfl, rfl, by simp, fun k hk hn => Below.heap_setCell _ _ _ k (fun e => by simp at e; omega)⟩ (by rcases hne with h | h; exact .inl h; exact .inr (by omega))
theorem mod3_eq (n : Nat) : ((n : Int) % 3 == 0) = (n % 3 == 0) := by
  by_cases h : n % 3 = 0
  · have h' : (n : Int) % 3 = 0 := by omega
    rw [h, h']; rfl
  · have h' : ¬ (n : Int) % 3 = 0 := by omega
    rw [beq_eq_false_iff_ne.2 h, beq_eq_false_iff_ne.2 h']
end Go.Proofs.YtmgomacmaidmlaaGreatDoor
