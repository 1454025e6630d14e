/- Several texts in one: DrwC, DrwD, DedP. -/
import Derived.Test.YtjkjmapibcfcdaaGreatDrwB
import Derived.Laws.OwnMore
import Derived.Test.YtjkjmapibcfcdaaGreatGaG
namespace Go.Proofs.YtjkjmapibcfcdaaGreat
open Go.ChangeShapes Go.WideShapes Go.ChangeAt Go.RowKit
set_option linter.unusedSimpArgs false
set_option linter.unusedVariables false
set_option maxRecDepth 100000
theorem OwnN.apart {w : World} {base : Nat} {v : Value} {xs : List Int} (h : OwnN w base v xs) {b : Nat} (hn : v.ownBlock ≠ some b) (o : Nat) (u : Value) : OwnN (w.setCell ⟨b, o, none⟩ u) base v xs := by
 obtain ⟨h0, a, cap, rfl, hcap, h⟩ := h
 refine ⟨h0, a, cap, rfl, hcap, ?_⟩
 rcases h with h | ⟨b', off, rfl, hb', hc⟩
 ·exact .inl h
 ·have hne : b' ≠ b := fun e => hn (by simp [Value.ownBlock, e])
  exact .inr ⟨b', off, rfl, hb', fun i hi => ⟨sO (hc i hi).1 (.inl hne), (World.frozen?_setCell _ _ _ _).trans (hc i hi).2⟩⟩
theorem l1Max_one (n : Nat) (w : World) : Calls Tryz.prog 130 #[.int .i64 (n : Int), .int .i64 1] w fun e w' => e = .returned (.int .i64 ((max n 1 : Nat) : Int)) ∧ w' = w := by
 rcases Nat.eq_zero_or_pos n with h | h
 ·subst h
  go_enter Tryz.func130, Tryz.ntmps130
  go_wp2
  go_ret
  exact ⟨rfl, rfl⟩
 ·rw [Nat.max_eq_left h]
  by_cases h1 : (1 : Int) < (n : Int)
  ·go_enter Tryz.func130, Tryz.ntmps130
   go_wp2
   go_ret
   exact ⟨rfl, rfl⟩
  ·obtain rfl : n = 1 := by omega
   go_enter Tryz.func130, Tryz.ntmps130
   go_wp2
   go_ret
   exact ⟨rfl, rfl⟩
theorem rowN_ns {w : World} {B n : Nat} {v : Value} {l : List Int} (h : w.ownsRow B 3 1 v n (ncells l)) : Ns w v l := (ownN_of_row h).bs
theorem rowN_mono {w : World} {B B' n : Nat} {v : Value} {l : List Value} (h : w.ownsRow B 3 1 v n l) (hB : B' ≤ B) : w.ownsRow B' 3 1 v n l := by
 refine ⟨h.1, ?_⟩
 rcases h.2 with h0 | ⟨g, cap, cur, h1, h2, h3⟩
 ·exact .inl h0
 ·exact .inr ⟨g, cap, cur, h1, by omega, h3⟩
set_option maxHeartbeats 2000000 in
set_option maxRecDepth 100000 in
theorem l4DrawNodes_any (bk : Nat) (sv : Value) (ds : List Int) (cop : Int) (w : World) (hc : Cur w bk) (hv : Ns w sv ds) (hl : ds.length ≤ 9) :
  Calls Tryz.prog 92 #[.pointer (some ⟨bk, 0, none⟩), .agg #[sv, .int .i64 cop]] w fun e w' => (∃ (u : Value) (zs : List Int), e = .returned u ∧ w'.ownsRow w.heap.size 3 1 u zs.length (ncells zs) ∧ zs.length ≤ 20 ∧ (∀ z ∈ zs, -1 ≤ z ∧ z ≤ 9)) ∧ Cur w' bk ∧ Drawn bk w w' := by
 have hlt := hc.lt
 have ha : ∀ (w : World) o, Below w.heap.size w (w.alloc o) := fun w o => (Below.refl _ _).alloc (Nat.le_refl _) o
 obtain ⟨h0, a, cap, rfl, -, -⟩ := hv
 go_enter Tryz.func92, Tryz.ntmps92
 go_wp2_with fail
 have Z0 := TwoZ.fresh w (.slice a ds.length cap) (.int .i64 cop) 26
 have hc0 := hc.below (ha w (.cells #[.slice a ds.length cap, .int .i64 cop] 26))
 have D0 := Drawn.of_below (bk := bk) (ha w (.cells #[.slice a ds.length cap, .int .i64 cop] 26))
 generalize hw0 : w.alloc (.cells #[.slice a ds.length cap, .int .i64 cop] 26) = w0 at *
 have O1 : (w0.alloc (.cells #[] 3)).ownsRow w.heap.size 3 1 (.slice (some ⟨w0.heap.size, 0, none⟩) 0 0) 0 (ncells []) := World.ownsRow_made w0 #[] 0 D0.size (by decide) (by simp)
 have hs0 : w0.heap.size = w.heap.size + 1 := by rw [← hw0]; simp
 rw [hs0] at O1
 have Z1 := Z0.kept (ha w0 (.cells #[] 3))
 have hc1 := hc0.below (ha w0 (.cells #[] 3))
 have D1 := D0.trans (Drawn.of_below (ha w0 (.cells #[] 3)))
 clear hw0 hs0 Z0 hc0 D0 hc
 generalize w0.alloc (.cells #[] 3) = w1 at *
 rw [show ((ds.length : Int) + 2) = ((ds.length + 2 : Nat) : Int) by push_cast; rfl]
 refine (l1Below_any bk (ds.length + 2) (by omega) (by omega) _ hc1).mono ?_
 rintro e w2 ⟨⟨n, hn, rfl⟩, hc2, hd2⟩
 have Z2 : TwoZ w2 w.heap.size w.heap.size (.slice a ds.length cap) (.int .i64 cop) := Z1.drawn hd2 (by omega)
 have O2 := dH (rowN_drawn O1 hd2 hlt)
 have D2 := dH (D1.trans hd2)
 have HZ2 := dH Z2
 have HC2 := dH hc2
 have hn' : n ≤ 10 := by omega
 clear Z1 O1 D1 hc1 hd2 Z2 hc2
 go_wp2
 go_loopw [5, 7] (fun o xi wr => ∃ (k : Nat) (zs : List Int), xi = .int .i64 (k : Int) ∧ k ≤ n ∧ Hid (TwoZ wr w.heap.size w.heap.size (.slice a ds.length cap) (.int .i64 cop)) ∧ Hid (Cur wr bk) ∧ Hid (Drawn bk w wr) ∧ Hid (wr.ownsRow w.heap.size 3 1 o zs.length (ncells zs)) ∧ zs.length ≤ k ∧ Hid (∀ z ∈ zs, -1 ≤ z ∧ z ≤ 9)) (fun _ xi _ => n - (intOf xi).toNat)
 case atStart => exact ⟨0, [], rfl, Nat.zero_le _, HZ2, HC2, D2, O2, by simp, (fun z h => by cases h)⟩
 case round =>
  obtain ⟨k, zs, rfl, hk, HZ, HC, HD, HO, hzl, HA⟩ := hrel
  clear HZ2 HC2 D2 O2
  obtain ⟨zb, ⟨k0, k1⟩, f0, f1⟩ := id (dU HZ)
  by_cases hkn : (k : Int) < (n : Int)
  ·go_wp2_with (go_at_call 130; refine (l1Max_one ds.length _).mono ?_; rintro e w' ⟨rfl, rfl⟩)
   refine (l1Below_any bk (max ds.length 1) (by omega) (by omega) _ (dU HC)).mono ?_
   rintro e w3 ⟨⟨y, hy, rfl⟩, hc3, hd3⟩
   have Z3 := dH ((dU HZ).drawn hd3 (by omega))
   have O3 := rowN_drawn (dU HO) hd3 hlt
   have D3 := dH ((dU HD).trans hd3)
   have C3 := dH hc3
   have PT := l4Put_any _ zs (y : Int) w3 (rowN_ns O3) (by omega)
   have hs3 := (dU D3).size
   clear HZ HC HD HO k0 k1 f0 f1 hd3 hc3 O3
   go_wp2_with fail
   refine PT.mono ?_
   rintro e w4 ⟨⟨u4, zs4, rfl, O4, hz4, P4⟩, b4⟩
   have Z4 := dH ((dU Z3).kept b4)
   have D4 := dH ((dU D3).trans (Drawn.of_below b4))
   have C4 := dH ((dU C3).below b4)
   have O4' := dH (rowN_mono O4 hs3)
   have HA4 : Hid (∀ z ∈ zs4, -1 ≤ z ∧ z ≤ 9) := fun z h => by
    rcases P4 z h with h1 | h1
    ·rw [h1]; omega
    ·exact dU HA z h1
   clear PT Z3 D3 C3 O4 P4 b4 HA
   go_wp2
   go_roundw
   case rel => exact ⟨k + 1, zs4, by go_num, by omega, Z4, C4, D4, O4', by omega, HA4⟩
   case measure => simp [intOf]; omega
  ·go_wp2_with fail
   refine (l1Once_any bk 20 (by omega) (by omega) _ (dU HC)).mono ?_
   rintro e w3 ⟨⟨bb, rfl⟩, hc3, hd3⟩
   have Z3 : TwoZ w3 w.heap.size w.heap.size (.slice a ds.length cap) (.int .i64 cop) := (dU HZ).drawn hd3 (by omega)
   have O3 := rowN_drawn (dU HO) hd3 hlt
   have D3 := (dU HD).trans hd3
   have HA := dU HA
   clear HZ HC HD HO k0 k1 f0 f1 hd3
   cases bb
   ·go_wp2
    go_ret
    refine ⟨?_, hc3, D3⟩
    first | exact ⟨_, zs, rfl, O3, by omega, HA⟩ | exact ⟨_, rfl, zs, O3, by omega, HA⟩
   ·obtain ⟨-, ⟨k0, k1⟩, f0, f1⟩ := id Z3
    go_wp2_with fail
    refine (pick_new hc3 [-1, 0, (ds.length : Int)] _ (by simp) (by simp) _).mono ?_
    rintro e w4 ⟨⟨t, ht, rfl⟩, hc4, hd4⟩
    have O4 := rowN_drawn O3 hd4 hlt
    have D4 := D3.trans hd4
    have htb : -1 ≤ t ∧ t ≤ 9 := by
     simp only [List.mem_cons, List.mem_nil_iff, or_false] at ht
     omega
    have hs4 := D4.size
    have l4 := O4.lt
    clear Z3 O3 D3 hc3 hd4 k0 k1 f0 f1 ht
    go_wp2_with (at_builtin; refine appN _ rfl _ _ rfl w.heap.size _ zs rfl (O4.alloc _) ⟨w4.heap.size, 0, none⟩ 1 1 [t] rfl rfl (one_int _ _ _) ?c3 ?c4 ?_)
    case c3 => (try simp only [List.length_cons, List.length_nil]); omega
    case c4 => simp; omega
    intro v5 w5 o5 r5
    have ba : Below w4.heap.size w4 (w4.alloc (.cells #[.int .i64 t] 3)) := (Below.refl _ _).alloc (Nat.le_refl _) _
    have c5 : Cur w5 bk := (hc4.below ba).grown r5 (fun k hk => by have := (l4 k hk).1; omega)
    have D5 : Drawn bk w w5 := (D4.trans (Drawn.of_below ba)).grew r5 (fun k hk => (l4 k hk).1)
    have hA5 : ∀ z ∈ zs ++ [t], -1 ≤ z ∧ z ≤ 9 := fun z h => by
     rcases List.mem_append.1 h with h1 | h1
     ·exact HA z h1
     ·rw [List.mem_singleton.1 h1]; exact htb
    have HA5 := dH hA5
    have o5 := dH (own_lenN o5)
    clear O4 D4 hc4 r5 l4 ba hA5 HA
    go_wp2
    go_ret
    refine ⟨?_, c5, D5⟩
    first | exact ⟨_, zs ++ [t], rfl, dU o5, by simp; omega, dU HA5⟩ | exact ⟨_, rfl, zs ++ [t], dU o5, by simp; omega, dU HA5⟩
theorem mem_fold {y : Int} : ∀ (xs l : List Int), y ∈ xs.foldl addD l ↔ y ∈ l ∨ y ∈ xs
 | [], l => by simp
 | x :: xs, l => by
  rw [List.foldl_cons, mem_fold xs (addD l x), mem_addD, List.mem_cons]
  constructor
  ·rintro ((h | h) | h)
   ·exact .inl h
   ·exact .inr (.inl h)
   ·exact .inr (.inr h)
  ·rintro (h | h | h)
   ·exact .inl (.inl h)
   ·exact .inl (.inr h)
   ·exact .inr h
theorem mem_dedL {y : Int} {xs : List Int} : y ∈ dedL xs ↔ y ∈ xs := by
 unfold dedL
 rw [mem_fold]
 simp
end Go.Proofs.YtjkjmapibcfcdaaGreat
