/- Several texts in one: ChoA, ChoB, PutO. -/
import Derived.Test.YtjkjmapibcfcdaaGreatGaC
namespace Go.Proofs.YtjkjmapibcfcdaaGreat
open Go.ChangeShapes Go.WideShapes Go.ChangeAt Go.RowKit
set_option linter.unusedSimpArgs false
set_option linter.unusedVariables false
def putA (y : Int) : List Int → List Int
 | [] => [y]
 | a :: l => if y < a then y :: a :: l else a :: putA y l
theorem putA_len (y : Int) (l : List Int) : (putA y l).length = l.length + 1 := by
 induction l with
 | nil => rfl
 | cons a l ih =>
  unfold putA
  split
  ·simp
  ·simp [ih]
theorem putA_none {y : Int} {l : List Int} (h : ∀ a ∈ l, ¬ y < a) : putA y l = l ++ [y] := by
 induction l with
 | nil => rfl
 | cons a l ih =>
  unfold putA
  rw [if_neg (h a (by simp)), ih fun b hb => h b (by simp [hb])]
  rfl
theorem putA_snoc_yes {y a : Int} {l : List Int} (h : ∃ b ∈ l, y < b) : putA y (l ++ [a]) = putA y l ++ [a] := by
 induction l with
 | nil => obtain ⟨b, hb, -⟩ := h; cases hb
 | cons c l ih =>
  rw [List.cons_append]
  unfold putA
  by_cases hc : y < c
  ·rw [if_pos hc, if_pos hc]; rfl
  ·rw [if_neg hc, if_neg hc, ih ?_]
   ·rfl
   ·obtain ⟨b, hb, hy⟩ := h
    rcases List.mem_cons.1 hb with rfl | hb
    ·exact absurd hy hc
    ·exact ⟨b, hb, hy⟩
theorem putA_snoc_no {y a : Int} {l : List Int} (h : ∀ b ∈ l, ¬ y < b) (ha : y < a) : putA y (l ++ [a]) = l ++ [y, a] := by
 induction l with
 | nil => unfold putA; simp [ha]
 | cons c l ih =>
  rw [List.cons_append]
  unfold putA
  rw [if_neg (h c (by simp)), ih fun b hb => h b (by simp [hb])]
  rfl
theorem mem_putA {y x : Int} {l : List Int} : x ∈ putA y l ↔ x = y ∨ x ∈ l := by
 induction l with
 | nil => simp [putA]
 | cons a l ih =>
  unfold putA
  split
  ·simp
  ·simp only [List.mem_cons, ih]
   constructor
   ·rintro (h | h | h)
    ·exact .inr (.inl h)
    ·exact .inl h
    ·exact .inr (.inr h)
   ·rintro (h | h | h)
    ·exact .inr (.inl h)
    ·exact .inl h
    ·exact .inr (.inr h)
def PutAt (y : Int) (l zs : List Int) (p : Bool) : Prop := (p = true → (∃ b ∈ l, y < b) ∧ zs = putA y l) ∧ (p = false → (∀ b ∈ l, ¬ y < b) ∧ zs = l)
theorem PutAt.in_ {y x : Int} {l zs : List Int} (h : PutAt y l zs false) (hx : y < x) : PutAt y (l ++ [x]) (zs ++ [y] ++ [x]) true := by
 obtain ⟨h1, rfl⟩ := h.2 rfl
 exact ⟨fun _ => ⟨⟨x, by simp, hx⟩, by rw [putA_snoc_no h1 hx]; simp⟩, fun h => by cases h⟩
theorem PutAt.on {y x : Int} {l zs : List Int} {p : Bool} (h : PutAt y l zs p) (hx : p = true ∨ ¬ y < x) : PutAt y (l ++ [x]) (zs ++ [x]) p := by
 cases p
 ·obtain ⟨h1, rfl⟩ := h.2 rfl
  have hx : ¬ y < x := by rcases hx with h | h; cases h; exact h
  refine ⟨(fun h => by cases h), fun _ => ⟨fun b hb => ?_, rfl⟩⟩
  rcases List.mem_append.1 hb with hb | hb
  ·exact h1 b hb
  ·rw [List.mem_singleton.1 hb]; exact hx
 ·obtain ⟨⟨b, hb, hy⟩, rfl⟩ := h.1 rfl
  exact ⟨fun _ => ⟨⟨b, by simp [hb], hy⟩, by rw [putA_snoc_yes ⟨b, hb, hy⟩]⟩, fun h => by cases h⟩
set_option maxHeartbeats 1000000 in
theorem l4Put_new (v : Value) (xs : List Int) (y : Int) (w : World) (hv : Ns w v xs) (hl : xs.length ≤ 2000000) (hy : y ∉ xs) :
  Calls Tryz.prog 34 #[v, .int .i64 y] w fun e w' => (∃ u, e = .returned u ∧ w'.ownsRow w.heap.size 3 1 u (putA y xs).length (ncells (putA y xs))) ∧ Below w.heap.size w w' := by
 have CH := dH fun W (hb : Below w.heap.size w W) => l4Has_any v xs y W (hv.below hb)
 obtain ⟨h0, a, cap, rfl, -, hu⟩ := hv
 have HU := dH hu
 clear hu
 go_enter Tryz.func34, Tryz.ntmps34
 go_wp2_with fail
 refine (dU CH _ ((Below.refl _ _).alloc (Nat.le_refl _) _)).mono ?_
 rintro e w1 ⟨hr, rfl⟩
 obtain rfl := hr.of_no hy
 clear hr CH hy
 go_wp2
 go_loopw [5, 6, 7] (fun o q x wr => ∃ (k : Nat) (p : Bool) (zs : List Int), x = .int .i64 (k : Int) ∧ q = .bool p ∧ k ≤ xs.length ∧ wr.ownsRow w.heap.size 3 1 o zs.length (ncells zs) ∧ zs.length ≤ k + 1 ∧ (p = false → zs.length ≤ k) ∧ Hid (PutAt y (xs.take k) zs p) ∧ Below w.heap.size w wr) (fun _ _ x _ => xs.length - (intOf x).toNat)
 case atStart => exact ⟨0, false, [], rfl, rfl, Nat.zero_le _, World.ownsRow_made w #[] 0 (Nat.le_refl _) (by decide) (by simp), by simp, by simp, ⟨(fun h => by cases h), fun _ => ⟨(fun b h => by simp at h), by simp⟩⟩, (Below.refl _ _).alloc (Nat.le_refl _) _⟩
 case round =>
  obtain ⟨k, p, zs, rfl, rfl, hk, hown, hz1, hz2, hm, hb⟩ := hrel
  have hlt' := hown.lt
  by_cases hlt : (k : Int) < (xs.length : Int)
  ·obtain ⟨b, off, rfl, hc⟩ : ∃ b off, a = some ⟨b, off, none⟩ ∧ ∀ i (h : i < xs.length), w.cell? ⟨b, off + i, none⟩ = some (.int .i64 xs[i]) := orN_of_lt (dU HU) (k := k) (by omega)
   have hkl : k < xs.length := by omega
   have c0 := dH (hc k hkl)
   have c1 : wr.cell? ⟨b, off + k, none⟩ = some (.int .i64 xs[k]) := (hb.cell (p := ⟨b, off + k, none⟩) (dCell_lt (hc k hkl))).trans (hc k hkl)
   have hT := dH (List.take_succ_eq_append_getElem hkl)
   generalize xs[k] = x at *
   clear hc
   have hxb : (decide (y < x)) = true ∨ (decide (y < x)) = false := by cases decide (y < x) <;> simp
   by_cases hp : p = false ∧ y < x
   ·obtain ⟨rfl, hyx⟩ := hp
    have hz3 := hz2 rfl
    clear hxb
    go_wp2_with (at_builtin; refine appN _ rfl _ _ rfl w.heap.size _ zs rfl (hown.alloc _) ⟨wr.heap.size, 0, none⟩ 1 1 [y] rfl rfl (one_int _ _ _) ?c3 ?c4 ?_)
    case c3 => (try simp only [List.length_append, List.length_cons, List.length_nil]); omega
    case c4 => have := hb.size; simp; omega
    intro v' w2 hown' hgrow
    have hb2 : Below w.heap.size w w2 := (hb.alloc hb.size _).grown hgrow (by have := hb.size; simp; omega) (fun k hk => (hlt' k hk).1)
    have hown2 := own_lenN hown'
    have c2 : w2.cell? ⟨b, off + k, none⟩ = some (.int .i64 x) := (hb2.cell (p := ⟨b, off + k, none⟩) (dCell_lt (dU c0))).trans (dU c0)
    have hlt2 := hown2.lt
    have HM : Hid (PutAt y (xs.take (k + 1)) (zs ++ [y] ++ [x]) true) := by rw [Hid, dU hT]; exact (dU hm).in_ hyx
    clear hown hown' hgrow hb hlt' c1 hm
    go_wp2_with (at_builtin; refine appN _ rfl _ _ rfl w.heap.size _ (zs ++ [y]) rfl (hown2.alloc _) ⟨w2.heap.size, 0, none⟩ 1 1 [x] rfl rfl (one_int _ _ _) ?c3 ?c4 ?_)
    case c3 => (try simp only [List.length_append, List.length_cons, List.length_nil]); omega
    case c4 => have := hb2.size; simp; omega
    intro v'' w3 hown3 hgrow3
    have hb3 : Below w.heap.size w w3 := (hb2.alloc hb2.size _).grown hgrow3 (by have := hb2.size; simp; omega) (fun k hk => (hlt2 k hk).1)
    have hown4 := own_lenN hown3
    clear hown2 hown3 hgrow3 hb2 hlt2 c2
    go_wp2
    go_roundw
    case rel => exact ⟨k + 1, true, _, by go_num, rfl, by omega, hown4, by simp; omega, (fun h => by cases h), by simpa using HM, hb3⟩
    case measure => simp [intOf]; omega
   ·have hpx : p = true ∨ ¬ y < x := by
     cases p
     ·exact .inr fun h => hp ⟨rfl, h⟩
     ·exact .inl rfl
    have HM : Hid (PutAt y (xs.take (k + 1)) (zs ++ [x]) p) := by rw [Hid, dU hT]; exact (dU hm).on hpx
    clear hp hxb hm
    have hgo : ∀ (q : Bool), p = q → (q = true ∨ ¬ y < x) → True := fun _ _ _ => trivial
    clear hgo
    cases p
    ·have hyx : ¬ y < x := by rcases hpx with h | h; cases h; exact h
     clear hpx
     have hz3 := hz2 rfl
     go_wp2_with (at_builtin; refine appN _ rfl _ _ rfl w.heap.size _ zs rfl (hown.alloc _) ⟨wr.heap.size, 0, none⟩ 1 1 [x] rfl rfl (one_int _ _ _) ?c3 ?c4 ?_)
     case c3 => (try simp only [List.length_append, List.length_cons, List.length_nil]); omega
     case c4 => have := hb.size; simp; omega
     intro v' w2 hown' hgrow
     have hb2 : Below w.heap.size w w2 := (hb.alloc hb.size _).grown hgrow (by have := hb.size; simp; omega) (fun k hk => (hlt' k hk).1)
     have hown2 := own_lenN hown'
     clear hown hown' hgrow hb hlt' c1
     go_wp2
     go_roundw
     case rel => exact ⟨k + 1, false, _, by go_num, rfl, by omega, hown2, by simp; omega, (fun _ => by simp; omega), HM, hb2⟩
     case measure => simp [intOf]; omega
    ·clear hpx
     go_wp2_with (at_builtin; refine appN _ rfl _ _ rfl w.heap.size _ zs rfl (hown.alloc _) ⟨wr.heap.size, 0, none⟩ 1 1 [x] rfl rfl (one_int _ _ _) ?c3 ?c4 ?_)
     case c3 => (try simp only [List.length_append, List.length_cons, List.length_nil]); omega
     case c4 => have := hb.size; simp; omega
     intro v' w2 hown' hgrow
     have hb2 : Below w.heap.size w w2 := (hb.alloc hb.size _).grown hgrow (by have := hb.size; simp; omega) (fun k hk => (hlt' k hk).1)
     have hown2 := own_lenN hown'
     clear hown hown' hgrow hb hlt' c1
     go_wp2
     go_roundw
     case rel => exact ⟨k + 1, true, _, by go_num, rfl, by omega, hown2, by simp; omega, (fun h => by cases h), HM, hb2⟩
     case measure => simp [intOf]; omega
  ·have e1 : xs.take k = xs := List.take_of_length_le (by omega)
   rw [e1] at hm
   clear e1 HU
   cases p
   ·have hz3 := hz2 rfl
    obtain ⟨m1, rfl⟩ := (dU hm).2 rfl
    have eP := dH (putA_none m1)
    clear m1 hm
    go_wp2_with (at_builtin; refine appN _ rfl _ _ rfl w.heap.size _ zs rfl (hown.alloc _) ⟨wr.heap.size, 0, none⟩ 1 1 [y] rfl rfl (one_int _ _ _) ?c3 ?c4 ?_)
    case c3 => (try simp only [List.length_append, List.length_cons, List.length_nil]); omega
    case c4 => have := hb.size; simp; omega
    intro v' w2 hown' hgrow
    have hb2 : Below w.heap.size w w2 := (hb.alloc hb.size _).grown hgrow (by have := hb.size; simp; omega) (fun k hk => (hlt' k hk).1)
    have hown2 := own_lenN hown'
    rw [← dU eP] at hown2
    clear hown hown' hgrow hb hlt' eP
    go_wp2
    go_ret
    exact ⟨⟨_, rfl, hown2⟩, hb2⟩
   ·have eP := ((dU hm).1 rfl).2
    rw [eP] at hown
    clear eP hm hz1 hz2
    go_wp2
    go_ret
    exact ⟨⟨_, rfl, hown⟩, hb⟩
def putL (y : Int) (xs : List Int) : List Int := if y ∈ xs then xs else putA y xs
theorem putL_len (y : Int) (xs : List Int) : (putL y xs).length ≤ xs.length + 1 := by
 unfold putL
 split
 ·omega
 ·rw [putA_len]; omega
theorem mem_putL {y x : Int} {xs : List Int} : x ∈ putL y xs ↔ x = y ∨ x ∈ xs := by
 unfold putL
 split
 ·rename_i h
  constructor
  ·exact .inr
  ·rintro (rfl | h')
   ·exact h
   ·exact h'
 ·exact mem_putA
set_option maxHeartbeats 1000000 in
theorem l4Put_old (v : Value) (xs : List Int) (y : Int) (w : World) (hv : Ns w v xs) (hl : xs.length ≤ 2000000) (hy : y ∈ xs) :
  Calls Tryz.prog 34 #[v, .int .i64 y] w fun e w' => (∃ u, e = .returned u ∧ w'.ownsRow w.heap.size 3 1 u xs.length (ncells xs)) ∧ Below w.heap.size w w' := by
 have CH := dH fun W (hb : Below w.heap.size w W) => l4Has_any v xs y W (hv.below hb)
 obtain ⟨h0, a, cap, rfl, -, hu⟩ := hv
 have HU := dH hu
 clear hu
 go_enter Tryz.func34, Tryz.ntmps34
 go_wp2_with fail
 refine (dU CH _ ((Below.refl _ _).alloc (Nat.le_refl _) _)).mono ?_
 rintro e w1 ⟨hr, rfl⟩
 obtain rfl := hr.of_yes hy
 clear hr CH hy
 go_wp2
 go_loopw [5, 6, 7] (fun o q x wr => ∃ (k : Nat), x = .int .i64 (k : Int) ∧ q = .bool true ∧ k ≤ xs.length ∧ wr.ownsRow w.heap.size 3 1 o (xs.take k).length (ncells (xs.take k)) ∧ Below w.heap.size w wr) (fun _ _ x _ => xs.length - (intOf x).toNat)
 case atStart => exact ⟨0, rfl, rfl, Nat.zero_le _, World.ownsRow_made w #[] 0 (Nat.le_refl _) (by decide) (by simp), (Below.refl _ _).alloc (Nat.le_refl _) _⟩
 case round =>
  obtain ⟨k, rfl, rfl, hk, hown, hb⟩ := hrel
  have hlt' := hown.lt
  have hz : (xs.take k).length ≤ k := by rw [List.length_take]; omega
  by_cases hlt : (k : Int) < (xs.length : Int)
  ·obtain ⟨b, off, rfl, hc⟩ : ∃ b off, a = some ⟨b, off, none⟩ ∧ ∀ i (h : i < xs.length), w.cell? ⟨b, off + i, none⟩ = some (.int .i64 xs[i]) := orN_of_lt (dU HU) (k := k) (by omega)
   have hkl : k < xs.length := by omega
   have c1 : wr.cell? ⟨b, off + k, none⟩ = some (.int .i64 xs[k]) := (hb.cell (p := ⟨b, off + k, none⟩) (dCell_lt (hc k hkl))).trans (hc k hkl)
   have hT := dH (List.take_succ_eq_append_getElem hkl)
   generalize xs[k] = x at *
   clear hc
   obtain ⟨zs, hzs⟩ : ∃ zs, zs = xs.take k := ⟨_, rfl⟩
   rw [← hzs] at hown hT hz
   have HZ := dH hzs
   clear hzs
   go_wp2_with (at_builtin; refine appN _ rfl _ _ rfl w.heap.size _ zs rfl (hown.alloc _) ⟨wr.heap.size, 0, none⟩ 1 1 [x] rfl rfl (one_int _ _ _) ?c3 ?c4 ?_)
   case c3 => (try simp only [List.length_append, List.length_cons, List.length_nil]); omega
   case c4 => have := hb.size; simp; omega
   intro v' w2 hown' hgrow
   have hb2 : Below w.heap.size w w2 := (hb.alloc hb.size _).grown hgrow (by have := hb.size; simp; omega) (fun k hk => (hlt' k hk).1)
   have hown2 := own_lenN hown'
   rw [← dU hT] at hown2
   clear hown hown' hgrow hb hlt' c1
   go_wp2
   go_roundw
   case rel => exact ⟨k + 1, by go_num, rfl, by omega, hown2, hb2⟩
   case measure => simp [intOf]; omega
  ·have e1 : xs.take k = xs := List.take_of_length_le (by omega)
   rw [e1] at hown
   clear e1 HU
   go_wp2
   go_ret
   exact ⟨⟨_, rfl, hown⟩, hb⟩
theorem l4Put_all (v : Value) (xs : List Int) (y : Int) (w : World) (hv : Ns w v xs) (hl : xs.length ≤ 2000000) :
  Calls Tryz.prog 34 #[v, .int .i64 y] w fun e w' => (∃ u, e = .returned u ∧ OwnN w' w.heap.size u (putL y xs)) ∧ Below w.heap.size w w' := by
 by_cases hy : y ∈ xs
 ·rw [show putL y xs = xs from if_pos hy]
  exact (l4Put_old v xs y w hv hl hy).mono fun e w' ⟨⟨u, h1, h2⟩, h3⟩ => ⟨⟨u, h1, ownN_of_row h2⟩, h3⟩
 ·rw [show putL y xs = putA y xs from if_neg hy]
  exact (l4Put_new v xs y w hv hl hy).mono fun e w' ⟨⟨u, h1, h2⟩, h3⟩ => ⟨⟨u, h1, ownN_of_row h2⟩, h3⟩
end Go.Proofs.YtjkjmapibcfcdaaGreat
