/- Drawn lists of nodes: l4Put, l1Max. -/
import Derived.Test.YtjkjmapibcfcdaaGreatGaC
import Derived.Test.YtjkjmapibcfcdaaGreatGaD
namespace Go.Proofs.YtjkjmapibcfcdaaGreat
open Go.ChangeShapes Go.WideShapes Go.ChangeAt Go.RowKit
set_option linter.unusedVariables false
set_option linter.unusedSimpArgs false

def PutL (xs zs : List Int) (y : Int) : Prop := ∀ z ∈ zs, z = y ∨ z ∈ xs
set_option maxHeartbeats 1000000 in
theorem l4Put_any (v : Value) (xs : List Int) (y : Int) (w : World) (hv : Ns w v xs) (hl : xs.length ≤ 1000000) :
  Calls Tryz.prog 34 #[v, .int .i64 y] w fun e w' => (∃ u zs, e = .returned u ∧ w'.ownsRow w.heap.size 3 1 u zs.length (ncells zs) ∧ zs.length ≤ xs.length + 1 ∧ PutL xs zs y) ∧ Below w.heap.size w w' := by
 have CH := dH fun W (hb : Below w.heap.size w W) => l4Has_any v xs y W (hv.below hb)
 obtain ⟨h0, a, cap, rfl, -, hu⟩ := hv
 have HU := dH hu
 clear hu
 go_enter Tryz.func34, Tryz.ntmps34
 go_wp2_with fail
 refine (dU CH _ ((Below.refl _ _).alloc (Nat.le_refl _) _)).mono ?_
 rintro e w1 ⟨⟨bb, rfl, hbb⟩, rfl⟩
 clear hbb CH
 go_wp2
 go_loopw [5, 6, 7] (fun o q x wr => ∃ (k : Nat) (p : Bool) (zs : List Int), x = .int .i64 (k : Int) ∧ q = .bool p ∧ k ≤ xs.length ∧ wr.ownsRow w.heap.size 3 1 o zs.length (ncells zs) ∧ zs.length ≤ k + 1 ∧ (p = false → zs.length ≤ k) ∧ Hid (PutL xs zs y) ∧ Below w.heap.size w wr) (fun _ _ x _ => xs.length - (intOf x).toNat)
 case atStart => exact ⟨0, bb, [], rfl, rfl, Nat.zero_le _, World.ownsRow_made w #[] 0 (Nat.le_refl _) (by decide) (by simp), by simp, by simp, (fun z h => by cases h), (Below.refl _ _).alloc (Nat.le_refl _) _⟩
 case round =>
  obtain ⟨k, p, zs, rfl, rfl, hk, hown, hz1, hz2, hm, hb⟩ := hrel
  have hlt' := hown.lt
  by_cases hlt : (k : Int) < (xs.length : Int)
  ·obtain ⟨b, off, rfl, hc⟩ : ∃ b off, a = some ⟨b, off, none⟩ ∧ ∀ i (h : i < xs.length), w.cell? ⟨b, off + i, none⟩ = some (.int .i64 xs[i]) := orN_of_lt (dU HU) (k := k) (by omega)
   have hkl : k < xs.length := by omega
   have c0 := dH (hc k hkl)
   have c1 : wr.cell? ⟨b, off + k, none⟩ = some (.int .i64 xs[k]) := (hb.cell (p := ⟨b, off + k, none⟩) (dCell_lt (hc k hkl))).trans (hc k hkl)
   have hin : Hid (xs[k] ∈ xs) := List.getElem_mem hkl
   generalize xs[k] = x at *
   clear hc
   have step2 : ∀ (zs' : List Int), Hid (PutL xs zs' y) → Hid (PutL xs (zs' ++ [x]) y) := fun zs' h z hz => by
    rcases List.mem_append.1 hz with h1 | h1
    ·exact dU h z h1
    ·rw [List.mem_singleton.1 h1]; exact .inr (dU hin)
   have step1 : ∀ (zs' : List Int), Hid (PutL xs zs' y) → Hid (PutL xs (zs' ++ [y]) y) := fun zs' h z hz => by
    rcases List.mem_append.1 hz with h1 | h1
    ·exact dU h z h1
    ·exact .inl (List.mem_singleton.1 h1)
   have S1 := dH step1
   have S2 := dH step2
   clear step1 step2
   have hxb : (decide (y < x)) = true ∨ (decide (y < x)) = false := by cases decide (y < x) <;> simp
   by_cases hp : p = false ∧ y < x
   ·obtain ⟨rfl, hyx⟩ := hp
    have hz3 := hz2 rfl
    clear hxb
    go_wp2_with (at_builtin; refine appN _ rfl _ _ rfl w.heap.size _ zs rfl (hown.alloc _) ⟨wr.heap.size, 0, none⟩ 1 1 [y] rfl rfl (one_int _ _ _) ?c3 ?c4 ?_)
    case c3 => (try simp only [List.length_append, List.length_cons, List.length_nil]); omega
    case c4 => have := hb.size; simp; omega
    intro v' w2 hown' hgrow
    have hb2 : Below w.heap.size w w2 := (hb.alloc hb.size _).grown hgrow (by have := hb.size; simp; omega) (fun k hk => (hlt' k hk).1)
    have hown2 := own_lenN hown'
    have c2 : w2.cell? ⟨b, off + k, none⟩ = some (.int .i64 x) := (hb2.cell (p := ⟨b, off + k, none⟩) (dCell_lt (dU c0))).trans (dU c0)
    have hlt2 := hown2.lt
    have HM := dU S2 _ (dU S1 _ hm)
    clear hown hown' hgrow hb hlt' c1 hm
    go_wp2_with (at_builtin; refine appN _ rfl _ _ rfl w.heap.size _ (zs ++ [y]) rfl (hown2.alloc _) ⟨w2.heap.size, 0, none⟩ 1 1 [x] rfl rfl (one_int _ _ _) ?c3 ?c4 ?_)
    case c3 => (try simp only [List.length_append, List.length_cons, List.length_nil]); omega
    case c4 => have := hb2.size; simp; omega
    intro v'' w3 hown3 hgrow3
    have hb3 : Below w.heap.size w w3 := (hb2.alloc hb2.size _).grown hgrow3 (by have := hb2.size; simp; omega) (fun k hk => (hlt2 k hk).1)
    have hown4 := own_lenN hown3
    clear hown2 hown3 hgrow3 hb2 hlt2 c2
    go_wp2
    go_roundw
    case rel => exact ⟨k + 1, true, _, by go_num, rfl, by omega, hown4, by simp; omega, (fun h => by cases h), by simpa using HM, hb3⟩
    case measure => simp [intOf]; omega
   ·have hpx : p = true ∨ ¬ y < x := by
     cases p
     ·exact .inr fun h => hp ⟨rfl, h⟩
     ·exact .inl rfl
    have HM := dU S2 _ hm
    clear hp hxb hm
    have hgo : ∀ (q : Bool), p = q → (q = true ∨ ¬ y < x) → True := fun _ _ _ => trivial
    clear hgo
    cases p
    ·have hyx : ¬ y < x := by rcases hpx with h | h; cases h; exact h
     clear hpx
     have hz3 := hz2 rfl
     go_wp2_with (at_builtin; refine appN _ rfl _ _ rfl w.heap.size _ zs rfl (hown.alloc _) ⟨wr.heap.size, 0, none⟩ 1 1 [x] rfl rfl (one_int _ _ _) ?c3 ?c4 ?_)
     case c3 => (try simp only [List.length_append, List.length_cons, List.length_nil]); omega
     case c4 => have := hb.size; simp; omega
     intro v' w2 hown' hgrow
     have hb2 : Below w.heap.size w w2 := (hb.alloc hb.size _).grown hgrow (by have := hb.size; simp; omega) (fun k hk => (hlt' k hk).1)
     have hown2 := own_lenN hown'
     clear hown hown' hgrow hb hlt' c1
     go_wp2
     go_roundw
     case rel => exact ⟨k + 1, false, _, by go_num, rfl, by omega, hown2, by simp; omega, (fun _ => by simp; omega), HM, hb2⟩
     case measure => simp [intOf]; omega
    ·clear hpx
     go_wp2_with (at_builtin; refine appN _ rfl _ _ rfl w.heap.size _ zs rfl (hown.alloc _) ⟨wr.heap.size, 0, none⟩ 1 1 [x] rfl rfl (one_int _ _ _) ?c3 ?c4 ?_)
     case c3 => (try simp only [List.length_append, List.length_cons, List.length_nil]); omega
     case c4 => have := hb.size; simp; omega
     intro v' w2 hown' hgrow
     have hb2 : Below w.heap.size w w2 := (hb.alloc hb.size _).grown hgrow (by have := hb.size; simp; omega) (fun k hk => (hlt' k hk).1)
     have hown2 := own_lenN hown'
     clear hown hown' hgrow hb hlt' c1
     go_wp2
     go_roundw
     case rel => exact ⟨k + 1, true, _, by go_num, rfl, by omega, hown2, by simp; omega, (fun h => by cases h), HM, hb2⟩
     case measure => simp [intOf]; omega
  ·have step1 : ∀ (zs' : List Int), Hid (PutL xs zs' y) → Hid (PutL xs (zs' ++ [y]) y) := fun zs' h z hz => by
    rcases List.mem_append.1 hz with h1 | h1
    ·exact dU h z h1
    ·exact .inl (List.mem_singleton.1 h1)
   have S1 := dH step1
   clear step1 HU
   cases p
   ·have hz3 := hz2 rfl
    go_wp2_with (at_builtin; refine appN _ rfl _ _ rfl w.heap.size _ zs rfl (hown.alloc _) ⟨wr.heap.size, 0, none⟩ 1 1 [y] rfl rfl (one_int _ _ _) ?c3 ?c4 ?_)
    case c3 => (try simp only [List.length_append, List.length_cons, List.length_nil]); omega
    case c4 => have := hb.size; simp; omega
    intro v' w2 hown' hgrow
    have hb2 : Below w.heap.size w w2 := (hb.alloc hb.size _).grown hgrow (by have := hb.size; simp; omega) (fun k hk => (hlt' k hk).1)
    have hown2 := own_lenN hown'
    have HM := dU S1 _ hm
    clear hown hown' hgrow hb hlt' hm
    go_wp2
    go_ret
    first | exact ⟨⟨_, _, rfl, hown2, by simp; omega, HM⟩, hb2⟩ | exact ⟨⟨_, rfl, _, hown2, by simp; omega, HM⟩, hb2⟩
   ·go_wp2
    go_ret
    first | exact ⟨⟨_, _, rfl, hown, by omega, hm⟩, hb⟩ | exact ⟨⟨_, rfl, _, hown, by omega, hm⟩, hb⟩
end Go.Proofs.YtjkjmapibcfcdaaGreat
