/- Several texts in one: DrawP, DrwA, DrawB, DrwB, DrwC, DrwD, DrwE. -/
import Derived.Test.YtjkjmapibcfcdaaGreatGaA
import Derived.Test.YtjkjmapibcfcdaaGreatGaC
import Derived.Test.YtjkjmapibcfcdaaGreatGaD
import Derived.Test.YtjkjmapibcfcdaaGreatGaT
import Derived.Deep.RegionHeld3
import Derived.Deep.DeepCutAuto
import Derived.Laws.OwnMore
namespace Go.Proofs.YtjkjmapibcfcdaaGreat
open Go.ChangeShapes Go.WideShapes Go.ChangeAt Go.RowKit
set_option linter.unusedSimpArgs false
set_option linter.unusedVariables false
theorem l1Pick_any (bk b off cap : Nat) (vs : List ByteArray) (w : World) (h1 : 1 ≤ vs.length) (h2 : vs.length ≤ 1000000) (hv : ∀ i (h : i < vs.length), w.cell? ⟨b, off + i, none⟩ = some (.string vs[i])) (hb : b ≠ bk) (hc : Cur w bk) :
  Calls Tryz.prog 116 #[.pointer (some ⟨bk, 0, none⟩), .slice (some ⟨b, off, none⟩) vs.length cap] w fun e w' => (∃ v, v ∈ vs ∧ e = .returned (.string v)) ∧ Cur w' bk ∧ Drawn bk w w' := by
 have HV := dH hv
 clear hv
 go_enter Tryz.func116, Tryz.ntmps116
 go_wp2_with fail
 refine (l1Below_any bk vs.length h1 (by omega) w hc).mono ?_
 rintro e w1 ⟨⟨x, hx, rfl⟩, hc1, hd1⟩
 have hcell := hd1.cell (dU HV x hx) hb
 have hm := List.getElem_mem hx
 generalize vs[x] = v at *
 go_wp2
 go_ret
 exact ⟨⟨v, hm, rfl⟩, hc1, hd1⟩
theorem pickT_new {bk : Nat} {w : World} (hc : Cur w bk) (vs : List ByteArray) (T : TypeId) (h1 : 1 ≤ vs.length) (h2 : vs.length ≤ 1000000) (cap : Nat) :
  Calls Tryz.prog 116 #[.pointer (some ⟨bk, 0, none⟩), .slice (some ⟨w.heap.size, 0, none⟩) vs.length cap] (w.alloc (.cells (vs.map Value.string).toArray T)) fun e w' => (∃ v, v ∈ vs ∧ e = .returned (.string v)) ∧ Cur w' bk ∧ Drawn bk w w' := by
 have hb : Below w.heap.size w (w.alloc (.cells (vs.map Value.string).toArray T)) := (Below.refl _ _).alloc (Nat.le_refl _) _
 have hlt := hc.lt
 refine (l1Pick_any bk w.heap.size 0 cap vs _ h1 h2 (fun i h => ?_) (by omega) (hc.below hb)).mono fun e w' ⟨h, k, d⟩ => ⟨h, k, (Drawn.of_below hb).trans d⟩
 simp
def PutL (xs zs : List Int) (y : Int) : Prop := ∀ z ∈ zs, z = y ∨ z ∈ xs
set_option maxHeartbeats 1000000 in
theorem l4Put_any (v : Value) (xs : List Int) (y : Int) (w : World) (hv : Ns w v xs) (hl : xs.length ≤ 1000000) :
  Calls Tryz.prog 34 #[v, .int .i64 y] w fun e w' => (∃ u zs, e = .returned u ∧ w'.ownsRow w.heap.size 3 1 u zs.length (ncells zs) ∧ zs.length ≤ xs.length + 1 ∧ PutL xs zs y) ∧ Below w.heap.size w w' := by
 have CH := dH fun W (hb : Below w.heap.size w W) => l4Has_any v xs y W (hv.below hb)
 obtain ⟨h0, a, cap, rfl, -, hu⟩ := hv
 have HU := dH hu
 clear hu
 go_enter Tryz.func34, Tryz.ntmps34
 go_wp2_with fail
 refine (dU CH _ ((Below.refl _ _).alloc (Nat.le_refl _) _)).mono ?_
 rintro e w1 ⟨⟨bb, rfl, hbb⟩, rfl⟩
 clear hbb CH
 go_wp2
 go_loopw [5, 6, 7] (fun o q x wr => ∃ (k : Nat) (p : Bool) (zs : List Int), x = .int .i64 (k : Int) ∧ q = .bool p ∧ k ≤ xs.length ∧ wr.ownsRow w.heap.size 3 1 o zs.length (ncells zs) ∧ zs.length ≤ k + 1 ∧ (p = false → zs.length ≤ k) ∧ Hid (PutL xs zs y) ∧ Below w.heap.size w wr) (fun _ _ x _ => xs.length - (intOf x).toNat)
 case atStart => exact ⟨0, bb, [], rfl, rfl, Nat.zero_le _, World.ownsRow_made w #[] 0 (Nat.le_refl _) (by decide) (by simp), by simp, by simp, (fun z h => by cases h), (Below.refl _ _).alloc (Nat.le_refl _) _⟩
 case round =>
  obtain ⟨k, p, zs, rfl, rfl, hk, hown, hz1, hz2, hm, hb⟩ := hrel
  have hlt' := hown.lt
  by_cases hlt : (k : Int) < (xs.length : Int)
  ·obtain ⟨b, off, rfl, hc⟩ : ∃ b off, a = some ⟨b, off, none⟩ ∧ ∀ i (h : i < xs.length), w.cell? ⟨b, off + i, none⟩ = some (.int .i64 xs[i]) := orN_of_lt (dU HU) (k := k) (by omega)
   have hkl : k < xs.length := by omega
   have c0 := dH (hc k hkl)
   have c1 : wr.cell? ⟨b, off + k, none⟩ = some (.int .i64 xs[k]) := (hb.cell (p := ⟨b, off + k, none⟩) (dCell_lt (hc k hkl))).trans (hc k hkl)
   have hin : Hid (xs[k] ∈ xs) := List.getElem_mem hkl
   generalize xs[k] = x at *
   clear hc
   have step2 : ∀ (zs' : List Int), Hid (PutL xs zs' y) → Hid (PutL xs (zs' ++ [x]) y) := fun zs' h z hz => by
    rcases List.mem_append.1 hz with h1 | h1
    ·exact dU h z h1
    ·rw [List.mem_singleton.1 h1]; exact .inr (dU hin)
   have step1 : ∀ (zs' : List Int), Hid (PutL xs zs' y) → Hid (PutL xs (zs' ++ [y]) y) := fun zs' h z hz => by
    rcases List.mem_append.1 hz with h1 | h1
    ·exact dU h z h1
    ·exact .inl (List.mem_singleton.1 h1)
   have S1 := dH step1
   have S2 := dH step2
   clear step1 step2
   have hxb : (decide (y < x)) = true ∨ (decide (y < x)) = false := by cases decide (y < x) <;> simp
   by_cases hp : p = false ∧ y < x
   ·obtain ⟨rfl, hyx⟩ := hp
    have hz3 := hz2 rfl
    clear hxb
    go_wp2_with (at_builtin; refine appN _ rfl _ _ rfl w.heap.size _ zs rfl (hown.alloc _) ⟨wr.heap.size, 0, none⟩ 1 1 [y] rfl rfl (one_int _ _ _) ?c3 ?c4 ?_)
    case c3 => (try simp only [List.length_append, List.length_cons, List.length_nil]); omega
    case c4 => have := hb.size; simp; omega
    intro v' w2 hown' hgrow
    have hb2 : Below w.heap.size w w2 := (hb.alloc hb.size _).grown hgrow (by have := hb.size; simp; omega) (fun k hk => (hlt' k hk).1)
    have hown2 := own_lenN hown'
    have c2 : w2.cell? ⟨b, off + k, none⟩ = some (.int .i64 x) := (hb2.cell (p := ⟨b, off + k, none⟩) (dCell_lt (dU c0))).trans (dU c0)
    have hlt2 := hown2.lt
    have HM := dU S2 _ (dU S1 _ hm)
    clear hown hown' hgrow hb hlt' c1 hm
    go_wp2_with (at_builtin; refine appN _ rfl _ _ rfl w.heap.size _ (zs ++ [y]) rfl (hown2.alloc _) ⟨w2.heap.size, 0, none⟩ 1 1 [x] rfl rfl (one_int _ _ _) ?c3 ?c4 ?_)
    case c3 => (try simp only [List.length_append, List.length_cons, List.length_nil]); omega
    case c4 => have := hb2.size; simp; omega
    intro v'' w3 hown3 hgrow3
    have hb3 : Below w.heap.size w w3 := (hb2.alloc hb2.size _).grown hgrow3 (by have := hb2.size; simp; omega) (fun k hk => (hlt2 k hk).1)
    have hown4 := own_lenN hown3
    clear hown2 hown3 hgrow3 hb2 hlt2 c2
    go_wp2
    go_roundw
    case rel => exact ⟨k + 1, true, _, by go_num, rfl, by omega, hown4, by simp; omega, (fun h => by cases h), by simpa using HM, hb3⟩
    case measure => simp [intOf]; omega
   ·have hpx : p = true ∨ ¬ y < x := by
     cases p
     ·exact .inr fun h => hp ⟨rfl, h⟩
     ·exact .inl rfl
    have HM := dU S2 _ hm
    clear hp hxb hm
    have hgo : ∀ (q : Bool), p = q → (q = true ∨ ¬ y < x) → True := fun _ _ _ => trivial
    clear hgo
    cases p
    ·have hyx : ¬ y < x := by rcases hpx with h | h; cases h; exact h
     clear hpx
     have hz3 := hz2 rfl
     go_wp2_with (at_builtin; refine appN _ rfl _ _ rfl w.heap.size _ zs rfl (hown.alloc _) ⟨wr.heap.size, 0, none⟩ 1 1 [x] rfl rfl (one_int _ _ _) ?c3 ?c4 ?_)
     case c3 => (try simp only [List.length_append, List.length_cons, List.length_nil]); omega
     case c4 => have := hb.size; simp; omega
     intro v' w2 hown' hgrow
     have hb2 : Below w.heap.size w w2 := (hb.alloc hb.size _).grown hgrow (by have := hb.size; simp; omega) (fun k hk => (hlt' k hk).1)
     have hown2 := own_lenN hown'
     clear hown hown' hgrow hb hlt' c1
     go_wp2
     go_roundw
     case rel => exact ⟨k + 1, false, _, by go_num, rfl, by omega, hown2, by simp; omega, (fun _ => by simp; omega), HM, hb2⟩
     case measure => simp [intOf]; omega
    ·clear hpx
     go_wp2_with (at_builtin; refine appN _ rfl _ _ rfl w.heap.size _ zs rfl (hown.alloc _) ⟨wr.heap.size, 0, none⟩ 1 1 [x] rfl rfl (one_int _ _ _) ?c3 ?c4 ?_)
     case c3 => (try simp only [List.length_append, List.length_cons, List.length_nil]); omega
     case c4 => have := hb.size; simp; omega
     intro v' w2 hown' hgrow
     have hb2 : Below w.heap.size w w2 := (hb.alloc hb.size _).grown hgrow (by have := hb.size; simp; omega) (fun k hk => (hlt' k hk).1)
     have hown2 := own_lenN hown'
     clear hown hown' hgrow hb hlt' c1
     go_wp2
     go_roundw
     case rel => exact ⟨k + 1, true, _, by go_num, rfl, by omega, hown2, by simp; omega, (fun h => by cases h), HM, hb2⟩
     case measure => simp [intOf]; omega
  ·have step1 : ∀ (zs' : List Int), Hid (PutL xs zs' y) → Hid (PutL xs (zs' ++ [y]) y) := fun zs' h z hz => by
    rcases List.mem_append.1 hz with h1 | h1
    ·exact dU h z h1
    ·exact .inl (List.mem_singleton.1 h1)
   have S1 := dH step1
   clear step1 HU
   cases p
   ·have hz3 := hz2 rfl
    go_wp2_with (at_builtin; refine appN _ rfl _ _ rfl w.heap.size _ zs rfl (hown.alloc _) ⟨wr.heap.size, 0, none⟩ 1 1 [y] rfl rfl (one_int _ _ _) ?c3 ?c4 ?_)
    case c3 => (try simp only [List.length_append, List.length_cons, List.length_nil]); omega
    case c4 => have := hb.size; simp; omega
    intro v' w2 hown' hgrow
    have hb2 : Below w.heap.size w w2 := (hb.alloc hb.size _).grown hgrow (by have := hb.size; simp; omega) (fun k hk => (hlt' k hk).1)
    have hown2 := own_lenN hown'
    have HM := dU S1 _ hm
    clear hown hown' hgrow hb hlt' hm
    go_wp2
    go_ret
    first | exact ⟨⟨_, _, rfl, hown2, by simp; omega, HM⟩, hb2⟩ | exact ⟨⟨_, rfl, _, hown2, by simp; omega, HM⟩, hb2⟩
   ·go_wp2
    go_ret
    first | exact ⟨⟨_, _, rfl, hown, by omega, hm⟩, hb⟩ | exact ⟨⟨_, rfl, _, hown, by omega, hm⟩, hb⟩
set_option maxHeartbeats 400000 in
theorem l1PickInt_any (bk b off cap : Nat) (vs : List Int) (w : World) (h1 : 1 ≤ vs.length) (h2 : vs.length ≤ 1000000) (hv : ∀ i (h : i < vs.length), w.cell? ⟨b, off + i, none⟩ = some (.int .i64 vs[i])) (hb : b ≠ bk) (hc : Cur w bk) :
  Calls Tryz.prog 72 #[.pointer (some ⟨bk, 0, none⟩), .slice (some ⟨b, off, none⟩) vs.length cap] w fun e w' => (∃ v, v ∈ vs ∧ e = .returned (.int .i64 v)) ∧ Cur w' bk ∧ Drawn bk w w' := by
 have HV := dH hv
 clear hv
 go_enter Tryz.func72, Tryz.ntmps72
 go_wp2_with fail
 refine (l1Below_any bk vs.length h1 (by omega) w hc).mono ?_
 rintro e w1 ⟨⟨x, hx, rfl⟩, hc1, hd1⟩
 have hcell := hd1.cell (dU HV x hx) hb
 have hm := List.getElem_mem hx
 generalize vs[x] = v at *
 go_wp2
 go_ret
 exact ⟨⟨v, hm, rfl⟩, hc1, hd1⟩
theorem l1Once_any (bk n : Nat) (h1 : 1 ≤ n) (h2 : n ≤ 1000000) (w : World) (hc : Cur w bk) :
  Calls Tryz.prog 23 #[.pointer (some ⟨bk, 0, none⟩), .int .i64 n] w fun e w' => (∃ b : Bool, e = .returned (.bool b)) ∧ Cur w' bk ∧ Drawn bk w w' := by
 go_enter Tryz.func23, Tryz.ntmps23
 go_wp2_with fail
 refine (l1Below_any bk n h1 (by omega) w hc).mono ?_
 rintro e w1 ⟨⟨x, hx, rfl⟩, hc1, hd1⟩
 go_wp2
 go_ret
 exact ⟨⟨_, rfl⟩, hc1, hd1⟩
theorem l1Place_in (a b : Int) (h1 : 0 ≤ a) (h2 : a ≤ 1000) (h3 : 0 ≤ b) (h4 : b ≤ 1000) (w : World) :
  Calls Tryz.prog 27 #[.int .i64 a, .int .i64 b] w fun e w' => e = .returned (.int .i64 (4294967296 * a + b)) ∧ w = w' := by
 go_enter Tryz.func27, Tryz.ntmps27
 go_wp2
 go_ret
 exact ⟨rfl, rfl⟩
def I64 (x : Int) : Prop := -9223372036854775808 ≤ x ∧ x ≤ 9223372036854775807
theorem pick_new {bk : Nat} {w : World} (hc : Cur w bk) (vs : List Int) (T : TypeId) (h1 : 1 ≤ vs.length) (h2 : vs.length ≤ 1000000) (cap : Nat) :
  Calls Tryz.prog 72 #[.pointer (some ⟨bk, 0, none⟩), .slice (some ⟨w.heap.size, 0, none⟩) vs.length cap] (w.alloc (.cells (vs.map (Value.int .i64)).toArray T)) fun e w' => (∃ v, v ∈ vs ∧ e = .returned (.int .i64 v)) ∧ Cur w' bk ∧ Drawn bk w w' := by
 have hb : Below w.heap.size w (w.alloc (.cells (vs.map (Value.int .i64)).toArray T)) := (Below.refl _ _).alloc (Nat.le_refl _) _
 have hlt := hc.lt
 refine (l1PickInt_any bk w.heap.size 0 cap vs _ h1 h2 (fun i h => ?_) (by omega) (hc.below hb)).mono fun e w' ⟨h, k, d⟩ => ⟨h, k, (Drawn.of_below hb).trans d⟩
 simp
set_option maxHeartbeats 1000000 in
theorem l1DrawPlace_any (bk : Nat) (w : World) (hc : Cur w bk) :
  Calls Tryz.prog 71 #[.pointer (some ⟨bk, 0, none⟩)] w fun e w' => (∃ x, I64 x ∧ e = .returned (.int .i64 x)) ∧ Cur w' bk ∧ Drawn bk w w' := by
 go_enter Tryz.func71, Tryz.ntmps71
 go_wp2_with fail
 refine (l1Below_any bk 3 (by omega) (by omega) w hc).mono ?_
 rintro e w1 ⟨⟨x, hx, rfl⟩, hc1, hd1⟩
 go_wp2_with fail
 refine (l1Below_any bk 6 (by omega) (by omega) w1 hc1).mono ?_
 rintro e w2 ⟨⟨y, hy, rfl⟩, hc2, hd2⟩
 go_wp2_with (go_at_call 27; refine (l1Place_in _ _ (by omega) (by omega) (by omega) (by omega) _).mono ?_; rintro e w3 ⟨rfl, rfl⟩)
 refine (l1Below_any bk 15 (by omega) (by omega) w2 hc2).mono ?_
 rintro e w3 ⟨⟨z, hz, rfl⟩, hc3, hd3⟩
 have hd := (hd1.trans hd2).trans hd3
 clear hc hc1 hc2 hd1 hd2 hd3
 by_cases z0 : ((z : Int) == 0) = true
 ·go_wp2_with fail
  refine (pick_new hc3 [0, -1, 4294967296, 4294967297, 9223372036854775807, -9223372036854775808] _ (by simp) (by simp) _).mono ?_
  rintro e w4 ⟨⟨v, hv, rfl⟩, hc4, hd4⟩
  have hI : I64 v := by
   simp only [List.mem_cons, List.mem_nil_iff, or_false] at hv
   unfold I64; omega
  clear hv
  go_wp2
  go_ret
  exact ⟨⟨v, hI, rfl⟩, hc4, hd.trans hd4⟩
 ·have z0' : ((z : Int) == 0) = false := by simpa using z0
  clear z0
  by_cases z1 : ((z : Int) == 1) = true
  ·go_wp2_with fail
   refine (pick_new hc3 [0, 30, 31] _ (by simp) (by simp) _).mono ?_
   rintro e w4 ⟨⟨v, hv, rfl⟩, hc4, hd4⟩
   have hv0 : 0 ≤ v ∧ v ≤ 100 := by
    simp only [List.mem_cons, List.mem_nil_iff, or_false] at hv
    omega
   clear hv
   go_wp2_with fail
   refine (pick_new hc4 [0, 60, 61] _ (by simp) (by simp) _).mono ?_
   rintro e w5 ⟨⟨u, hu, rfl⟩, hc5, hd5⟩
   have hu0 : 0 ≤ u ∧ u ≤ 100 := by
    simp only [List.mem_cons, List.mem_nil_iff, or_false] at hu
    omega
   clear hu
   go_wp2_with (go_at_call 27; refine (l1Place_in _ _ (by omega) (by omega) (by omega) (by omega) _).mono ?_; rintro e w6 ⟨rfl, rfl⟩)
   go_ret
   exact ⟨⟨_, by unfold I64; omega, rfl⟩, hc5, (hd.trans hd4).trans hd5⟩
  ·have z1' : ((z : Int) == 1) = false := by simpa using z1
   clear z1
   go_wp2
   go_ret
   exact ⟨⟨_, by unfold I64; omega, rfl⟩, hc3, hd⟩
theorem Cur.setNew4 {bk : Nat} {W : World} (h : Cur W bk) {b : Nat} (hb : bk < b) (o : Nat) (u : Value) : Cur (W.setCell ⟨b, o, none⟩ u) bk :=
 h.grown (grown_set W b o u) (fun k e => by cases e; exact hb)
theorem step_appN {ops : Array Oper} {o : Oper} {a : Act} {w : World} {K : Act → World → Prop} {Q : Exit → Act → World → Prop} {E : Prop}
  (hg : o.guard = none) (s x : Operand) (hop : o.op = .call { callee := .builtin .append, args := #[s, x], argTypes := #[24, 24] })
  (base : Nat) (v : Value) (bs : List Int) (hs : a.eval s = v) (hown : w.ownsRow base 3 1 v bs.length (ncells bs))
  (g c : Nat) (y : Int) (hx : a.eval x = .slice (some ⟨g, 0, none⟩) 1 c) (hsrc : ∀ j u, (ncells [y])[j]? = some u → w.cell? ((⟨g, 0, none⟩ : Addr).add j) = some u)
  (hb : bs.length + 1 ≤ 1099511627776) (hbase : base ≤ w.heap.size)
  (h : ∀ v' w', w'.ownsRow base 3 1 v' (bs ++ [y]).length (ncells (bs ++ [y])) → w.grownBy w' v.ownBlock → K (a.put o.dst v') w') :
  if Region.wanted o (yielded ops a.tmps) = true then Oper.wp Tryz.prog o a w K Q else E := by
 obtain ⟨i0, hi, hz0, hz1, hz2⟩ := info_parts infoI
 have hm : maxLen = 9223372036854775807 := rfl
 have hw : Region.wanted o (yielded ops a.tmps) = true := by simp [Region.wanted, hg]
 rw [if_pos hw]
 obtain ⟨v', w', hrun, h1, h2, _⟩ := run_append_own (P := Tryz.prog) w base 24 o.type 3 i0 (.int .i64 0) 1 8 Tryz.underlying24 hi hz0 hz1 hz2 rfl (by decide) v bs.length (ncells bs) hown ⟨g, 0, none⟩ 1 c (ncells [y]) (by simp [ncells]) hsrc (ncells_one _) (by omega) (by omega) hbase
 have h3 := h v' w' (by
  have e : ncells (bs ++ [y]) = ncells bs ++ ncells [y] := by simp [ncells]
  rw [e, List.length_append]; exact h1) h2
 unfold Oper.wp
 simp [execOp, hop, resolve, invoke, builtin, hs, hx, hrun, Result.andThen]
 exact h3
theorem rowN_drawn {w w' : World} {B bk n : Nat} {v : Value} {l : List Value} (h : w.ownsRow B 3 1 v n l) (hd : Drawn bk w w') (hb : bk < B) : w'.ownsRow B 3 1 v n l :=
 h.kept (row := some bk) ⟨hd.os, hd.tape, hd.output, hd.size, fun k hk hn => hd.block k hk (fun e => hn (by rw [e]))⟩ (by
  cases hv : v.ownBlock with
  | none => exact .inl rfl
  | some k => exact .inr (fun e => absurd (h.lt k hv).1 (by
   have h2 : k = bk := by simpa using e
   omega)))
theorem TwoZ.grown {w w' : World} {B b : Nat} {c0 c1 : Value} {row : Option Nat} (h : TwoZ w B b c0 c1) (g : w.grownBy w' row) (hn : row ≠ some b) : TwoZ w' B b c0 c1 := by
 obtain ⟨h0, ⟨k0, k1⟩, f0, f1⟩ := h
 have lt := dCell_lt k0
 have e := g.block b lt (fun h => hn h.symm)
 exact ⟨h0, ⟨(World.cell?_of_block (a := ⟨b, 0, none⟩) e).trans k0, (World.cell?_of_block (a := ⟨b, 1, none⟩) e).trans k1⟩, (World.frozen?_of_block (a := ⟨b, 0, none⟩) e).trans f0, (World.frozen?_of_block (a := ⟨b, 1, none⟩) e).trans f1⟩
theorem Drawn.grew {bk : Nat} {w w1 w2 : World} {row : Option Nat} (h : Drawn bk w w1) (g : w1.grownBy w2 row) (hr : ∀ k, row = some k → w.heap.size ≤ k) : Drawn bk w w2 :=
 ⟨g.os.trans h.os, g.tape.trans h.tape, g.output.trans h.output, Nat.le_trans h.size g.size, fun k hk hn => (g.block k (Nat.lt_of_lt_of_le hk h.size) (fun e => by have := hr k e.symm; omega)).trans (h.block k hk hn)⟩
theorem rowN_slice {w : World} {B n : Nat} {v : Value} {l : List Value} (h : w.ownsRow B 3 1 v n l) : ∃ a n c, v = .slice a n c := by
 rcases h.2 with ⟨rfl, _⟩ | ⟨g, cap, cur, rfl, _⟩
 ·exact ⟨_, _, _, rfl⟩
 ·exact ⟨_, _, _, rfl⟩
theorem rowN_ne {w : World} {B b n : Nat} {v sv : Value} {l : List Int} (h : w.ownsRow B 3 1 v n (ncells l)) (hl : 0 < l.length) (hs : ∃ a n c, sv = .slice a n c) (hc : w.cell? ⟨b, 0, none⟩ = some sv) : v.ownBlock ≠ some b := by
 intro hb
 obtain ⟨a, m, c, rfl⟩ := hs
 have h1 := h.cells hb 0 (.int .i64 l[0]) (by simp [ncells, hl])
 have e : (⟨b, 0, none⟩ : Addr).add 0 = ⟨b, 0, none⟩ := by simp [Addr.add]
 rw [e, hc] at h1
 cases h1
set_option maxHeartbeats 2000000 in
set_option maxRecDepth 100000 in
theorem l4DrawRight_any (bk : Nat) (w : World) (hc : Cur w bk) :
  Calls Tryz.prog 41 #[.pointer (some ⟨bk, 0, none⟩)] w fun r w' => (∃ (sv : Value) (ds : List Int) (cop : Int), r = .returned (.agg #[sv, .int .i64 cop]) ∧ w'.ownsRow w.heap.size 3 1 sv ds.length (ncells ds) ∧ (3 ≤ ds.length ∧ ds.length ≤ 7) ∧ (∀ d ∈ ds, 0 ≤ d ∧ d ≤ 4) ∧ 1 ≤ cop ∧ cop ≤ 3) ∧ Cur w' bk ∧ Drawn bk w w' := by
 have hlt := hc.lt
 have ha : ∀ (w : World) o, Below w.heap.size w (w.alloc o) := fun w o => (Below.refl _ _).alloc (Nat.le_refl _) o
 go_enter Tryz.func41, Tryz.ntmps41
 go_wp2_with fail
 have Z0 := TwoZ.fresh w (.slice none 0 0) (.int .i64 0) 26
 have hc0 := hc.below (ha w (.cells #[.slice none 0 0, .int .i64 0] 26))
 have D0 := Drawn.of_below (bk := bk) (ha w (.cells #[.slice none 0 0, .int .i64 0] 26))
 refine (l1Below_any bk 3 (by omega) (by omega) _ hc0).mono ?_
 rintro e w1 ⟨⟨x, hx, rfl⟩, hc1, hd1⟩
 have Z1 : TwoZ w1 w.heap.size w.heap.size (.slice none 0 0) (.int .i64 0) := Z0.drawn hd1 (by omega)
 have D1 := D0.trans hd1
 have hs1 := D1.size
 have hz1 := dCell_lt Z1.2.1.1
 clear Z0 D0 hc0 hd1 hc
 go_wp2_with fail
 have X2 := TwoZ.fresh w1 (.slice none 0 0) (.int .i64 (1 + (x : Int))) 26
 have Z2 := Z1.kept (ha w1 (.cells #[.slice none 0 0, .int .i64 (1 + (x : Int))] 26))
 have hc2 := hc1.below (ha w1 (.cells #[.slice none 0 0, .int .i64 (1 + (x : Int))] 26))
 have D2 := D1.trans (Drawn.of_below (ha w1 (.cells #[.slice none 0 0, .int .i64 (1 + (x : Int))] 26)))
 generalize hbx : w1.heap.size = bx at *
 generalize w1.alloc (.cells #[.slice none 0 0, .int .i64 (1 + (x : Int))] 26) = w2 at *
 clear hbx Z1 D1 hc1
 refine (l1Below_any bk 5 (by omega) (by omega) _ hc2).mono ?_
 rintro e w3 ⟨⟨y, hy, rfl⟩, hc3, hd3⟩
 have X3 : TwoZ w3 bx bx (.slice none 0 0) (.int .i64 (1 + (x : Int))) := X2.drawn hd3 (by omega)
 have Z3 : TwoZ w3 w.heap.size w.heap.size (.slice none 0 0) (.int .i64 0) := Z2.drawn hd3 (by omega)
 have D3 := D2.trans hd3
 have HX3 := dH X3
 have HZ3 := dH Z3
 have HC3 := dH hc3
 have HD3 := dH D3
 clear X2 Z2 D2 hc2 hd3 X3 Z3 hc3 D3
 go_wp2
 go_loopw [5] (fun xi wr => ∃ (k : Nat) (sv : Value) (ds : List Int), xi = .int .i64 (k : Int) ∧ k ≤ 3 + y ∧ Hid (TwoZ wr bx bx sv (.int .i64 (1 + (x : Int)))) ∧ Hid (TwoZ wr w.heap.size w.heap.size (.slice none 0 0) (.int .i64 0)) ∧ Hid (Cur wr bk) ∧ Hid (Drawn bk w wr) ∧ Hid (wr.ownsRow w.heap.size 3 1 sv ds.length (ncells ds)) ∧ Hid (sv.ownBlock ≠ some bx) ∧ Hid (sv.ownBlock ≠ some w.heap.size) ∧ ds.length = k ∧ Hid (∀ d ∈ ds, 0 ≤ d ∧ d ≤ 4)) (fun xi _ => 3 + y - (intOf xi).toNat)
 case atStart => exact ⟨0, .slice none 0 0, [], rfl, Nat.zero_le _, HX3, HZ3, HC3, HD3, World.ownsRow_nil _ _ _ _, (fun h => by cases h), (fun h => by cases h), rfl, (fun d h => by cases h)⟩
 case round =>
  obtain ⟨k, sv, ds, rfl, hk, HX, HZ, HC, HD, HO, HN, HN0, hdl, HA⟩ := hrel
  clear HX3 HZ3 HC3 HD3
  obtain ⟨xb, ⟨k0, k1⟩, f0, f1⟩ := id (dU HX)
  by_cases hlt' : (k : Int) < 3 + (y : Int)
  ·have hcr := dU HC
   have hdl5 : ds.length ≤ 100 := by omega
   have hneb : sv.ownBlock ≠ some bx := dU HN
   have HSL : Hid (∃ a n c, sv = .slice a n c) := rowN_slice (dU HO)
   go_wp2
   refine wp_region_noPanic ?_
   refine wp_region_held_drew (S := fun _ => True) (by kernel_rfl) trivial (fun hHeld => ?_)
   refine tY 0 (v := ?_) rfl (by kernel_rfl) (.inl ⟨by rfl, ?_⟩) ‹_› ?_
   rotate_left 1
   ·intro w hSw
    (try dsimp only at hSw)
    first | (go_simp; done) | (go_simp; with_reducible rfl)
   try simp only [Act.put, sA, sB, sC]
   refine tY 2 (v := ?_) rfl (by kernel_rfl) (.inl ⟨by rfl, ?_⟩) ‹_› ?_
   rotate_left 1
   ·intro w hSw
    (try dsimp only at hSw)
    first | (go_simp; done) | (go_simp; with_reducible rfl)
   try simp only [Act.put, sA, sB, sC]
   refine wpAnyH_ready (rs := [1, 3]) (by kernel_rfl) (by simp) ?_
   refine rC rfl (fun K hK => ?_) (rC rfl (fun K hK => ?_) AllReadyH.nil)
   ·go_simp
    (try go_wp2_with fail)
    refine hK.out _ _ trivial (fun hHeld => ?_)
    clear hK K
    try simp only [Act.put, sA, sB, sC]
    refine wpAnyH_ready (rs := [3]) (by kernel_rfl) (by simp) ?_
    refine rC rfl (fun K hK => ?_) AllReadyH.nil
    go_simp
    refine (l1Below_any bk 5 (by omega) (by omega) _ (hcr.below (Below.refl _ _).drew)).mono ?_
    rintro e w4 ⟨⟨z, hz, rfl⟩, hc4, hd4⟩
    have hd4 := (Drawn.refl bk wr).drew.trans hd4
    have X4 : TwoZ w4 bx bx sv (.int .i64 (1 + (x : Int))) := (dU HX).drawn hd4 (by omega)
    obtain ⟨xb4, ⟨q0, q1⟩, g0, g1⟩ := id X4
    have hbx4 : bx < w4.heap.size := dCell_lt q0
    have O4 := rowN_drawn (dU HO) hd4 hlt
    have Z4 := (dU HZ).drawn hd4 (by omega)
    have D4 := (dU HD).trans hd4
    (try go_wp2_with fail)
    refine hK.out _ _ trivial (fun hHeld => ?_)
    clear hK K
    try simp only [Act.put, sA, sB, sC]
    refine wpAnyH_ready (rs := [4]) (by kernel_rfl) (by simp) ?_
    refine rC rfl (fun K hK => ?_) AllReadyH.nil
    go_simp
    (try go_wp2_with fail)
    refine hK.out _ _ trivial (fun hHeld => ?_)
    clear hK K
    try simp only [Act.put, sA, sB, sC]
    refine wpAnyH_ready (rs := [5]) (by kernel_rfl) (by simp) ?_
    refine rC rfl (fun K hK => ?_) AllReadyH.nil
    refine step_appN rfl _ _ rfl w.heap.size _ ds rfl (O4.alloc _) w4.heap.size 1 (z : Int) rfl (one_int _ _ _) (by omega) (by have := D4.size; simp; omega) ?_
    intro v5 w5 o5 r5
    obtain ⟨va, vn, vc, rfl⟩ := rowN_slice o5
    have ba : ∀ o, Below w4.heap.size w4 (w4.alloc o) := fun o => (Below.refl _ _).alloc (Nat.le_refl _) o
    have X5 : TwoZ w5 bx bx sv (.int .i64 (1 + (x : Int))) := (X4.kept (ba _)).grown r5 hneb
    have Z5 : TwoZ w5 w.heap.size w.heap.size (.slice none 0 0) (.int .i64 0) := (Z4.kept (ba _)).grown r5 (dU HN0)
    have c5 : Cur w5 bk := (hc4.below (ba _)).grown r5 (fun k hk => by have := (O4.lt k hk).1; omega)
    have D5 : Drawn bk w w5 := (D4.trans (Drawn.of_below (ba _))).grew r5 (fun k hk => (O4.lt k hk).1)
    obtain ⟨xb5, ⟨s0, s1⟩, t0, t1⟩ := id X5
    have n6 : (Value.slice va vn vc).ownBlock ≠ some bx := rowN_ne o5 (by simp) (dU HSL) s0
    have n7 : (Value.slice va vn vc).ownBlock ≠ some w.heap.size := rowN_ne o5 (by simp) ⟨_, _, _, rfl⟩ Z5.2.1.1
    refine hK.out _ _ trivial (fun hHeld => ?_)
    clear hK K
    try simp only [Act.put, sA, sB, sC]
    refine tY 6 (v := ?_) rfl (by kernel_rfl) (.inl ⟨by rfl, ?_⟩) ‹_› ?_
    rotate_left 1
    ·intro w hSw
     (try dsimp only at hSw)
     first | (go_simp; done) | (go_simp; with_reducible rfl)
    try simp only [Act.put, sA, sB, sC]
    refine wpAnyH_ready (rs := [7]) (by kernel_rfl) (by simp) ?_
    refine rC rfl (fun K hK => ?_) AllReadyH.nil
    go_simp
    (try go_wp2_with fail)
    refine hK.out _ _ trivial (fun hHeld => ?_)
    clear hK K
    try simp only [Act.put, sA, sB, sC]
    refine wpAnyH_done (by kernel_rfl) ?_ _
    refine NoPanic.normal ?_
    have X6 := dH (X5.put0 (.slice va vn vc))
    have Z6 := dH (Z5.far (b' := bx) (o := 0) (by omega) (.slice va vn vc))
    have C6 := dH (c5.setNew4 (b := bx) (by omega) 0 (.slice va vn vc))
    have D6 := dH (D5.setNew (b := bx) (by omega) 0 (.slice va vn vc))
    have O6 := dH (o5.kept (grown_set w5 bx 0 (.slice va vn vc)) (.inr n6))
    have HA6 : Hid (∀ d ∈ ds ++ [(z : Int)], 0 ≤ d ∧ d ≤ 4) := fun d h => by
     rcases List.mem_append.1 h with h1 | h1
     ·exact dU HA d h1
     ·rw [List.mem_singleton.1 h1]; omega
    have N6 := dH n6
    have M6 := dH n7
    clear X5 Z5 c5 D5 o5 n6 s0 s1 t0 t1 q0 q1 g0 g1 k0 k1 f0 f1 O4 Z4 D4 X4 hc4 hd4 r5 hcr hneb HX HZ HC HD HO HN HN0 HSL HA n7 ba
    generalize w5.setCell ⟨bx, 0, none⟩ (.slice va vn vc) = w6 at *
    go_wp2
    go_roundw
    case rel => exact ⟨k + 1, .slice va vn vc, ds ++ [(z : Int)], by go_num, by omega, X6, Z6, C6, D6, O6, N6, M6, by simp; omega, HA6⟩
    case measure => simp [intOf]; omega
   ·go_simp
    refine (l1Below_any bk 5 (by omega) (by omega) _ (hcr.below (Below.refl _ _).drew)).mono ?_
    rintro e w4 ⟨⟨z, hz, rfl⟩, hc4, hd4⟩
    have hd4 := (Drawn.refl bk wr).drew.trans hd4
    have X4 : TwoZ w4 bx bx sv (.int .i64 (1 + (x : Int))) := (dU HX).drawn hd4 (by omega)
    obtain ⟨xb4, ⟨q0, q1⟩, g0, g1⟩ := id X4
    have hbx4 : bx < w4.heap.size := dCell_lt q0
    have O4 := rowN_drawn (dU HO) hd4 hlt
    have Z4 := (dU HZ).drawn hd4 (by omega)
    have D4 := (dU HD).trans hd4
    (try go_wp2_with fail)
    refine hK.out _ _ trivial (fun hHeld => ?_)
    clear hK K
    try simp only [Act.put, sA, sB, sC]
    refine wpAnyH_ready (rs := [1, 4]) (by kernel_rfl) (by simp) ?_
    refine rC rfl (fun K hK => ?_) (rC rfl (fun K hK => ?_) AllReadyH.nil)
    ·go_simp
     (try go_wp2_with fail)
     refine hK.out _ _ trivial (fun hHeld => ?_)
     clear hK K
     try simp only [Act.put, sA, sB, sC]
     refine wpAnyH_ready (rs := [4]) (by kernel_rfl) (by simp) ?_
     refine rC rfl (fun K hK => ?_) AllReadyH.nil
     go_simp
     (try go_wp2_with fail)
     refine hK.out _ _ trivial (fun hHeld => ?_)
     clear hK K
     try simp only [Act.put, sA, sB, sC]
     refine wpAnyH_ready (rs := [5]) (by kernel_rfl) (by simp) ?_
     refine rC rfl (fun K hK => ?_) AllReadyH.nil
     refine step_appN rfl _ _ rfl w.heap.size _ ds rfl (O4.alloc _) w4.heap.size 1 (z : Int) rfl (one_int _ _ _) (by omega) (by have := D4.size; simp; omega) ?_
     intro v5 w5 o5 r5
     obtain ⟨va, vn, vc, rfl⟩ := rowN_slice o5
     have ba : ∀ o, Below w4.heap.size w4 (w4.alloc o) := fun o => (Below.refl _ _).alloc (Nat.le_refl _) o
     have X5 : TwoZ w5 bx bx sv (.int .i64 (1 + (x : Int))) := (X4.kept (ba _)).grown r5 hneb
     have Z5 : TwoZ w5 w.heap.size w.heap.size (.slice none 0 0) (.int .i64 0) := (Z4.kept (ba _)).grown r5 (dU HN0)
     have c5 : Cur w5 bk := (hc4.below (ba _)).grown r5 (fun k hk => by have := (O4.lt k hk).1; omega)
     have D5 : Drawn bk w w5 := (D4.trans (Drawn.of_below (ba _))).grew r5 (fun k hk => (O4.lt k hk).1)
     obtain ⟨xb5, ⟨s0, s1⟩, t0, t1⟩ := id X5
     have n6 : (Value.slice va vn vc).ownBlock ≠ some bx := rowN_ne o5 (by simp) (dU HSL) s0
     have n7 : (Value.slice va vn vc).ownBlock ≠ some w.heap.size := rowN_ne o5 (by simp) ⟨_, _, _, rfl⟩ Z5.2.1.1
     refine hK.out _ _ trivial (fun hHeld => ?_)
     clear hK K
     try simp only [Act.put, sA, sB, sC]
     refine tY 6 (v := ?_) rfl (by kernel_rfl) (.inl ⟨by rfl, ?_⟩) ‹_› ?_
     rotate_left 1
     ·intro w hSw
      (try dsimp only at hSw)
      first | (go_simp; done) | (go_simp; with_reducible rfl)
     try simp only [Act.put, sA, sB, sC]
     refine wpAnyH_ready (rs := [7]) (by kernel_rfl) (by simp) ?_
     refine rC rfl (fun K hK => ?_) AllReadyH.nil
     go_simp
     (try go_wp2_with fail)
     refine hK.out _ _ trivial (fun hHeld => ?_)
     clear hK K
     try simp only [Act.put, sA, sB, sC]
     refine wpAnyH_done (by kernel_rfl) ?_ _
     refine NoPanic.normal ?_
     have X6 := dH (X5.put0 (.slice va vn vc))
     have Z6 := dH (Z5.far (b' := bx) (o := 0) (by omega) (.slice va vn vc))
     have C6 := dH (c5.setNew4 (b := bx) (by omega) 0 (.slice va vn vc))
     have D6 := dH (D5.setNew (b := bx) (by omega) 0 (.slice va vn vc))
     have O6 := dH (o5.kept (grown_set w5 bx 0 (.slice va vn vc)) (.inr n6))
     have HA6 : Hid (∀ d ∈ ds ++ [(z : Int)], 0 ≤ d ∧ d ≤ 4) := fun d h => by
      rcases List.mem_append.1 h with h1 | h1
      ·exact dU HA d h1
      ·rw [List.mem_singleton.1 h1]; omega
     have N6 := dH n6
     have M6 := dH n7
     clear X5 Z5 c5 D5 o5 n6 s0 s1 t0 t1 q0 q1 g0 g1 k0 k1 f0 f1 O4 Z4 D4 X4 hc4 hd4 r5 hcr hneb HX HZ HC HD HO HN HN0 HSL HA n7 ba
     generalize w5.setCell ⟨bx, 0, none⟩ (.slice va vn vc) = w6 at *
     go_wp2
     go_roundw
     case rel => exact ⟨k + 1, .slice va vn vc, ds ++ [(z : Int)], by go_num, by omega, X6, Z6, C6, D6, O6, N6, M6, by simp; omega, HA6⟩
     case measure => simp [intOf]; omega
    ·go_simp
     (try go_wp2_with fail)
     refine hK.out _ _ trivial (fun hHeld => ?_)
     clear hK K
     try simp only [Act.put, sA, sB, sC]
     refine wpAnyH_ready (rs := [1]) (by kernel_rfl) (by simp) ?_
     refine rC rfl (fun K hK => ?_) AllReadyH.nil
     go_simp
     (try go_wp2_with fail)
     refine hK.out _ _ trivial (fun hHeld => ?_)
     clear hK K
     try simp only [Act.put, sA, sB, sC]
     refine wpAnyH_ready (rs := [5]) (by kernel_rfl) (by simp) ?_
     refine rC rfl (fun K hK => ?_) AllReadyH.nil
     refine step_appN rfl _ _ rfl w.heap.size _ ds rfl (O4.alloc _) w4.heap.size 1 (z : Int) rfl (one_int _ _ _) (by omega) (by have := D4.size; simp; omega) ?_
     intro v5 w5 o5 r5
     obtain ⟨va, vn, vc, rfl⟩ := rowN_slice o5
     have ba : ∀ o, Below w4.heap.size w4 (w4.alloc o) := fun o => (Below.refl _ _).alloc (Nat.le_refl _) o
     have X5 : TwoZ w5 bx bx sv (.int .i64 (1 + (x : Int))) := (X4.kept (ba _)).grown r5 hneb
     have Z5 : TwoZ w5 w.heap.size w.heap.size (.slice none 0 0) (.int .i64 0) := (Z4.kept (ba _)).grown r5 (dU HN0)
     have c5 : Cur w5 bk := (hc4.below (ba _)).grown r5 (fun k hk => by have := (O4.lt k hk).1; omega)
     have D5 : Drawn bk w w5 := (D4.trans (Drawn.of_below (ba _))).grew r5 (fun k hk => (O4.lt k hk).1)
     obtain ⟨xb5, ⟨s0, s1⟩, t0, t1⟩ := id X5
     have n6 : (Value.slice va vn vc).ownBlock ≠ some bx := rowN_ne o5 (by simp) (dU HSL) s0
     have n7 : (Value.slice va vn vc).ownBlock ≠ some w.heap.size := rowN_ne o5 (by simp) ⟨_, _, _, rfl⟩ Z5.2.1.1
     refine hK.out _ _ trivial (fun hHeld => ?_)
     clear hK K
     try simp only [Act.put, sA, sB, sC]
     refine tY 6 (v := ?_) rfl (by kernel_rfl) (.inl ⟨by rfl, ?_⟩) ‹_› ?_
     rotate_left 1
     ·intro w hSw
      (try dsimp only at hSw)
      first | (go_simp; done) | (go_simp; with_reducible rfl)
     try simp only [Act.put, sA, sB, sC]
     refine wpAnyH_ready (rs := [7]) (by kernel_rfl) (by simp) ?_
     refine rC rfl (fun K hK => ?_) AllReadyH.nil
     go_simp
     (try go_wp2_with fail)
     refine hK.out _ _ trivial (fun hHeld => ?_)
     clear hK K
     try simp only [Act.put, sA, sB, sC]
     refine wpAnyH_done (by kernel_rfl) ?_ _
     refine NoPanic.normal ?_
     have X6 := dH (X5.put0 (.slice va vn vc))
     have Z6 := dH (Z5.far (b' := bx) (o := 0) (by omega) (.slice va vn vc))
     have C6 := dH (c5.setNew4 (b := bx) (by omega) 0 (.slice va vn vc))
     have D6 := dH (D5.setNew (b := bx) (by omega) 0 (.slice va vn vc))
     have O6 := dH (o5.kept (grown_set w5 bx 0 (.slice va vn vc)) (.inr n6))
     have HA6 : Hid (∀ d ∈ ds ++ [(z : Int)], 0 ≤ d ∧ d ≤ 4) := fun d h => by
      rcases List.mem_append.1 h with h1 | h1
      ·exact dU HA d h1
      ·rw [List.mem_singleton.1 h1]; omega
     have N6 := dH n6
     have M6 := dH n7
     clear X5 Z5 c5 D5 o5 n6 s0 s1 t0 t1 q0 q1 g0 g1 k0 k1 f0 f1 O4 Z4 D4 X4 hc4 hd4 r5 hcr hneb HX HZ HC HD HO HN HN0 HSL HA n7 ba
     generalize w5.setCell ⟨bx, 0, none⟩ (.slice va vn vc) = w6 at *
     go_wp2
     go_roundw
     case rel => exact ⟨k + 1, .slice va vn vc, ds ++ [(z : Int)], by go_num, by omega, X6, Z6, C6, D6, O6, N6, M6, by simp; omega, HA6⟩
     case measure => simp [intOf]; omega
  ·have hcr := dU HC
   have hs4 : w.heap.size < bx := hz1
   go_wp2_with fail
   refine (l1Once_any bk 2 (by omega) (by omega) _ hcr).mono ?_
   rintro e w4 ⟨⟨bb, rfl⟩, hc4, hd4⟩
   have X4 : TwoZ w4 bx bx sv (.int .i64 (1 + (x : Int))) := (dU HX).drawn hd4 (by omega)
   have Z4 : TwoZ w4 w.heap.size w.heap.size (.slice none 0 0) (.int .i64 0) := (dU HZ).drawn hd4 (by omega)
   have O4 := rowN_drawn (dU HO) hd4 hlt
   have D4 := (dU HD).trans hd4
   obtain ⟨va, vn, vc, rfl⟩ := rowN_slice O4
   have nX := dU HN
   have nZ := dU HN0
   have hds : 3 ≤ ds.length ∧ ds.length ≤ 7 := by omega
   have HA := dU HA
   clear HX HZ HC HD HO HN HN0 hcr hd4 k0 k1 f0 f1
   cases bb
   ·obtain ⟨-, ⟨k0, k1⟩, -⟩ := id X4
    obtain ⟨-, ⟨r0, r1⟩, g0, g1⟩ := id Z4
    go_wp2
    obtain ⟨-, ⟨e0, e1⟩, -⟩ := (Z4.put0 (.slice va vn vc)).put1 (.int .i64 (1 + (x : Int)))
    have hcE := (hc4.setNew4 (b := w.heap.size) hlt 0 (.slice va vn vc)).setNew4 (b := w.heap.size) hlt 1 (.int .i64 (1 + (x : Int)))
    have hdE := (D4.setNew (b := w.heap.size) (Nat.le_refl _) 0 (.slice va vn vc)).setNew (b := w.heap.size) (Nat.le_refl _) 1 (.int .i64 (1 + (x : Int)))
    have hoE := (O4.kept (grown_set w4 w.heap.size 0 (.slice va vn vc)) (.inr nZ)).kept (grown_set (w4.setCell ⟨w.heap.size, 0, none⟩ (.slice va vn vc)) w.heap.size 1 (.int .i64 (1 + (x : Int)))) (.inr nZ)
    generalize (w4.setCell ⟨w.heap.size, 0, none⟩ (.slice va vn vc)).setCell ⟨w.heap.size, 1, none⟩ (.int .i64 (1 + (x : Int))) = V at *
    refine bodyPost_ret (v := .agg #[.slice va vn vc, .int .i64 (1 + (x : Int))]) (by simp [results, Tryz.results41, go_sem, e0, e1]) rfl ⟨⟨_, ds, _, rfl, hoE, hds, HA, by omega, by omega⟩, hcE, hdE⟩
   ·obtain ⟨-, ⟨k0, k1⟩, f0, f1⟩ := id X4
    obtain ⟨-, ⟨r0, r1⟩, g0, g1⟩ := id Z4
    have X5 := X4.put1 (.int .i64 2)
    have Z5 := Z4.far (b' := bx) (o := 1) (by omega) (.int .i64 2)
    have c5 := hc4.setNew4 (b := bx) (by omega) 1 (.int .i64 2)
    have D5 := D4.setNew (b := bx) (by omega) 1 (.int .i64 2)
    have O5 := O4.kept (grown_set w4 bx 1 (.int .i64 2)) (.inr nX)
    go_wp2_with fail
    generalize w4.setCell ⟨bx, 1, none⟩ (.int .i64 2) = w5 at *
    obtain ⟨-, ⟨e0, e1⟩, -⟩ := (Z5.put0 (.slice va vn vc)).put1 (.int .i64 2)
    have hcE := (c5.setNew4 (b := w.heap.size) hlt 0 (.slice va vn vc)).setNew4 (b := w.heap.size) hlt 1 (.int .i64 2)
    have hdE := (D5.setNew (b := w.heap.size) (Nat.le_refl _) 0 (.slice va vn vc)).setNew (b := w.heap.size) (Nat.le_refl _) 1 (.int .i64 2)
    have hoE := (O5.kept (grown_set w5 w.heap.size 0 (.slice va vn vc)) (.inr nZ)).kept (grown_set (w5.setCell ⟨w.heap.size, 0, none⟩ (.slice va vn vc)) w.heap.size 1 (.int .i64 2)) (.inr nZ)
    generalize (w5.setCell ⟨w.heap.size, 0, none⟩ (.slice va vn vc)).setCell ⟨w.heap.size, 1, none⟩ (.int .i64 2) = V at *
    refine bodyPost_ret (v := .agg #[.slice va vn vc, .int .i64 2]) (by simp [results, Tryz.results41, go_sem, e0, e1]) rfl ⟨⟨_, ds, _, rfl, hoE, hds, HA, by omega, by omega⟩, hcE, hdE⟩
theorem OwnN.apart {w : World} {base : Nat} {v : Value} {xs : List Int} (h : OwnN w base v xs) {b : Nat} (hn : v.ownBlock ≠ some b) (o : Nat) (u : Value) : OwnN (w.setCell ⟨b, o, none⟩ u) base v xs := by
 obtain ⟨h0, a, cap, rfl, hcap, h⟩ := h
 refine ⟨h0, a, cap, rfl, hcap, ?_⟩
 rcases h with h | ⟨b', off, rfl, hb', hc⟩
 ·exact .inl h
 ·have hne : b' ≠ b := fun e => hn (by simp [Value.ownBlock, e])
  exact .inr ⟨b', off, rfl, hb', fun i hi => ⟨sO (hc i hi).1 (.inl hne), (World.frozen?_setCell _ _ _ _).trans (hc i hi).2⟩⟩
theorem zerosN_own (n : Nat) (w : World) (h : n ≤ 9223372036854775807) : OwnN (w.alloc (.cells (zerosN n) 3)) w.heap.size (.slice (some ⟨w.heap.size, 0, none⟩) n n) (List.replicate n 0) := by
 refine ⟨by simpa using h, _, n, by simp, by simpa using h, .inr ⟨w.heap.size, 0, rfl, Nat.le_refl _, fun i hi => ⟨?_, by simp⟩⟩⟩
 have hi' : i < n := by simpa using hi
 have := zerosN_at n i hi'
 simp [this]
theorem rowN_len {w : World} {B n c m : Nat} {a : Option Addr} {l : List Value} (h : w.ownsRow B 3 1 (.slice a n c) m l) : n = m := by
 rcases h.2 with ⟨h', h0⟩ | ⟨g', cap', cur, h', _⟩
 ·cases h'; exact h0.symm
 ·cases h'; rfl
theorem rowN_at {w : World} {B g n c : Nat} {l : List Int} (h : w.ownsRow B 3 1 (.slice (some ⟨g, 0, none⟩) n c) l.length (ncells l)) (hl : 0 < l.length) : w.cell? ⟨g, 0, none⟩ = some (.int .i64 l[0]) ∧ w.frozen? ⟨g, 0, none⟩ = false := by
 have hn : n = l.length := by
  rcases h.2 with ⟨h', _⟩ | ⟨g', cap', cur, h', _⟩
  ·cases h'
  ·cases h'; rfl
 subst hn
 have h1 := h.cells rfl 0 (.int .i64 l[0]) (by simp [ncells, hl])
 have e : (⟨g, 0, none⟩ : Addr).add 0 = ⟨g, 0, none⟩ := by simp [Addr.add]
 rw [e] at h1
 exact ⟨h1, h.frozenAt 0⟩
theorem rowN_set0 {w : World} {B g n c : Nat} {l : List Int} (h : w.ownsRow B 3 1 (.slice (some ⟨g, 0, none⟩) n c) l.length (ncells l)) (t : Int) : OwnN (w.setCell ⟨g, 0, none⟩ (.int .i64 t)) B (.slice (some ⟨g, 0, none⟩) n c) (l.set 0 t) := by
 obtain rfl := rowN_len h
 have h1 := (h.stored 0 (.int .i64 t)).1
 refine ownN_of_row (n := l.length) ?_
 have e : ncells (l.set 0 t) = (ncells l).set 0 (.int .i64 t) := by simp [ncells, List.map_set]
 rw [e]
 exact h1
theorem rowN_head {w : World} {B n c : Nat} {a : Option Addr} {l : List Int} (h : w.ownsRow B 3 1 (.slice a n c) l.length (ncells l)) (hl : 0 < l.length) : ∃ g, a = some ⟨g, 0, none⟩ ∧ w.cell? ⟨g, 0, none⟩ = some (.int .i64 l[0]) ∧ w.frozen? ⟨g, 0, none⟩ = false := by
 rcases h.2 with ⟨h', h0⟩ | ⟨g', cap', cur, h', _⟩
 ·omega
 ·cases h'
  exact ⟨g', rfl, rowN_at h hl⟩
set_option maxHeartbeats 2000000 in
set_option maxRecDepth 100000 in
theorem l4Draw_any (bk : Nat) (w : World) (hc : Cur w bk) :
  Calls Tryz.prog 68 #[.pointer (some ⟨bk, 0, none⟩)] w fun r w' => (∃ (sv : Value) (ds : List Int) (cop : Int), r = .returned (.agg #[sv, .int .i64 cop]) ∧ OwnN w' w.heap.size sv ds ∧ ds.length ≤ 9 ∧ (∀ d ∈ ds, -1 ≤ d ∧ d ≤ 8) ∧ 0 ≤ cop ∧ cop ≤ 5) ∧ Cur w' bk ∧ Drawn bk w w' := by
 have hlt := hc.lt
 have ha : ∀ (w : World) o, Below w.heap.size w (w.alloc o) := fun w o => (Below.refl _ _).alloc (Nat.le_refl _) o
 go_enter Tryz.func68, Tryz.ntmps68
 go_wp2_with fail
 have Z0 := TwoZ.fresh w (.slice none 0 0) (.int .i64 0) 26
 have hc0 := hc.below (ha w (.cells #[.slice none 0 0, .int .i64 0] 26))
 have D0 := Drawn.of_below (bk := bk) (ha w (.cells #[.slice none 0 0, .int .i64 0] 26))
 have hsz0 : (w.alloc (.cells #[.slice none 0 0, .int .i64 0] 26)).heap.size = w.heap.size + 1 := by simp
 refine (l4DrawRight_any bk _ hc0).mono ?_
 rintro e w1 ⟨⟨sv, ds, cop, rfl, O1, hds, HA, cl, cu⟩, hc1, hd1⟩
 rw [hsz0] at O1
 have Z1 : TwoZ w1 w.heap.size w.heap.size (.slice none 0 0) (.int .i64 0) := Z0.drawn hd1 (by omega)
 have D1 := D0.trans hd1
 have hz1 : w.heap.size + 1 ≤ w1.heap.size := by have := hd1.size; omega
 obtain ⟨va, vn, vc, rfl⟩ := rowN_slice O1
 have l1 := O1.lt
 clear Z0 D0 hc0 hd1 hc hsz0
 go_wp2_with fail
 have X2 := TwoZ.fresh w1 (.slice va vn vc) (.int .i64 cop) 26
 have Z2 := Z1.kept (ha w1 (.cells #[.slice va vn vc, .int .i64 cop] 26))
 have O2 := O1.alloc (.cells #[.slice va vn vc, .int .i64 cop] 26)
 have hc2 := hc1.below (ha w1 (.cells #[.slice va vn vc, .int .i64 cop] 26))
 have D2 := D1.trans (Drawn.of_below (ha w1 (.cells #[.slice va vn vc, .int .i64 cop] 26)))
 have nX : (Value.slice va vn vc).ownBlock ≠ some w1.heap.size := fun e => by have := (l1 _ e).2; omega
 have nZ : (Value.slice va vn vc).ownBlock ≠ some w.heap.size := fun e => by have := (l1 _ e).1; omega
 generalize hbx : w1.heap.size = bx at *
 generalize w1.alloc (.cells #[.slice va vn vc, .int .i64 cop] 26) = w2 at *
 clear hbx Z1 D1 hc1 O1 l1
 refine (l1Below_any bk 20 (by omega) (by omega) _ hc2).mono ?_
 rintro e w3 ⟨⟨y, hy, rfl⟩, hc3, hd3⟩
 have X3 : TwoZ w3 bx bx (.slice va vn vc) (.int .i64 cop) := X2.drawn hd3 (by omega)
 have Z3 : TwoZ w3 w.heap.size w.heap.size (.slice none 0 0) (.int .i64 0) := Z2.drawn hd3 (by omega)
 have O3 := rowN_drawn O2 hd3 (by omega)
 have D3 := D2.trans hd3
 have hA' : ∀ d ∈ ds, -1 ≤ d ∧ d ≤ 8 := fun d h => by have := HA d h; omega
 have HA' := dH hA'
 clear X2 Z2 D2 hc2 hd3 O2 HA hA'
 have N3 := ownN_of_row O3
 by_cases y0 : ((y : Int) == 0) = true
 ·obtain ⟨-, ⟨k0, k1⟩, f0, f1⟩ := id X3
  obtain ⟨-, ⟨r0, r1⟩, g0, g1⟩ := id Z3
  go_wp2_with fail
  refine (pick_new hc3 [0, 4, 5] _ (by simp) (by simp) _).mono ?_
  rintro e w4 ⟨⟨t, ht, rfl⟩, hc4, hd4⟩
  have X4 : TwoZ w4 bx bx (.slice va vn vc) (.int .i64 cop) := X3.drawn hd4 (by omega)
  have Z4 : TwoZ w4 w.heap.size w.heap.size (.slice none 0 0) (.int .i64 0) := Z3.drawn hd4 (by omega)
  have O4 := ownN_of_row (rowN_drawn O3 hd4 (by omega))
  have D4 := D3.trans hd4
  have htb : 0 ≤ t ∧ t ≤ 5 := by
   simp only [List.mem_cons, List.mem_nil_iff, or_false] at ht
   omega
  have Z5 := Z4.far (b' := bx) (o := 1) (by omega) (.int .i64 t)
  have c5 := hc4.setNew4 (b := bx) (by omega) 1 (.int .i64 t)
  have D5 := D4.setNew (b := bx) (by omega) 1 (.int .i64 t)
  have O5 := OwnN.apart O4 nX 1 (.int .i64 t)
  clear k0 k1 f0 f1 r0 r1 g0 g1 ht hd4 X3 Z3 O3 N3 hc3 D3
  obtain ⟨-, ⟨k0, k1⟩, f0, f1⟩ := id X4
  obtain ⟨-, ⟨r0, r1⟩, g0, g1⟩ := id Z4
  go_wp2_with fail
  clear k0 k1 f0 f1 r0 r1 g0 g1
  generalize w4.setCell ⟨bx, 1, none⟩ (.int .i64 t) = w5 at *
  obtain ⟨-, ⟨e0, e1⟩, -⟩ := (Z5.put0 (.slice va vn vc)).put1 (.int .i64 t)
  have hcE := (c5.setNew4 (b := w.heap.size) hlt 0 (.slice va vn vc)).setNew4 (b := w.heap.size) hlt 1 (.int .i64 t)
  have hdE := (D5.setNew (b := w.heap.size) (Nat.le_refl _) 0 (.slice va vn vc)).setNew (b := w.heap.size) (Nat.le_refl _) 1 (.int .i64 t)
  have hoE := ((O5.far (b := w.heap.size) (o := 0) (by omega) (.slice va vn vc)).far (b := w.heap.size) (o := 1) (by omega) (.int .i64 t)).mono (base' := w.heap.size) (by omega)
  generalize (w5.setCell ⟨w.heap.size, 0, none⟩ (.slice va vn vc)).setCell ⟨w.heap.size, 1, none⟩ (.int .i64 t) = V at *
  refine bodyPost_ret (v := .agg #[.slice va vn vc, .int .i64 t]) (by simp [results, Tryz.results68, go_sem, e0, e1]) rfl ⟨⟨_, _, _, rfl, hoE, by omega, dU HA', htb.1, htb.2⟩, hcE, hdE⟩
 have y0' : ((y : Int) == 0) = false := by simpa using y0
 clear y0
 by_cases y1 : ((y : Int) == 1) = true
 ·obtain ⟨g, rfl, cg, fg⟩ := rowN_head O3 (by omega)
  have hvn : (0 : Int) < (vn : Int) := by have := rowN_len O3; omega
  have hvn' : ¬ ((vn : Int) ≤ 0) := by omega
  have hvn2 : 0 < vn := by omega
  have hvn3 : ¬ vn = 0 := by omega
  have hgb : bx ≠ g := fun e => nX (by simp [Value.ownBlock, e])
  obtain ⟨-, ⟨k0, k1⟩, f0, f1⟩ := id X3
  obtain ⟨-, ⟨r0, r1⟩, g0, g1⟩ := id Z3
  go_wp2
  go_region_held3 (fun W => W.cell? ⟨bx, 0, none⟩ = some (.slice (some ⟨g, 0, none⟩) vn vc)) (first | exact sO (by assumption) (.inl hgb) | go_keep)
   (first
    | (go_at_call 72; first | (refine (pick_new (hc3.below (Below.refl _ _).drew) [-1, 7, 8] _ (by simp) (by simp) _).mono ?_; rintro e w4 ⟨⟨t, ht, rfl⟩, hc4, hd4⟩; have hd4 := (Drawn.refl bk w3).drew.trans hd4; have X4 : TwoZ w4 bx bx (.slice (some ⟨g, 0, none⟩) vn vc) (.int .i64 cop) := X3.drawn hd4 (by omega); have Z4 : TwoZ w4 w.heap.size w.heap.size (.slice none 0 0) (.int .i64 0) := Z3.drawn hd4 (by omega); have O4 := rowN_drawn O3 hd4 (by omega); have D4 := D3.trans hd4; obtain ⟨-, ⟨q0, q1⟩, h0, h1⟩ := id X4; obtain ⟨cg4, fg4⟩ := rowN_at O4 (by omega))))
  have htb : -1 ≤ t ∧ t ≤ 8 := by
   simp only [List.mem_cons, List.mem_nil_iff, or_false] at ht
   omega
  have O5 := rowN_set0 O4 t
  have hA5 : ∀ d ∈ ds.set 0 t, -1 ≤ d ∧ d ≤ 8 := fun d h => by
   rcases List.mem_or_eq_of_mem_set h with h1 | h1
   ·exact dU HA' d h1
   ·rw [h1]; exact htb
  have hl5 : (ds.set 0 t).length ≤ 9 := by rw [List.length_set]; omega
  have hgw : w.heap.size + 1 ≤ g := (O4.lt g rfl).1
  have X5 := X4.far (b' := g) (o := 0) hgb (.int .i64 t)
  have Z5 := Z4.far (b' := g) (o := 0) (by omega) (.int .i64 t)
  have c5 := hc4.setNew4 (b := g) (by omega) 0 (.int .i64 t)
  have D5 := D4.setNew (b := g) (by omega) 0 (.int .i64 t)
  have HA5 := dH hA5
  clear k0 k1 f0 f1 r0 r1 g0 g1 q0 q1 h0 h1 cg fg cg4 fg4 ht hd4 X3 Z3 O3 N3 hc3 D3 X4 Z4 O4 hc4 D4 hA5 hvn hvn' hvn2 hvn3
  generalize w4.setCell ⟨g, 0, none⟩ (.int .i64 t) = w5 at *
  obtain ⟨-, ⟨k0, k1⟩, f0, f1⟩ := id X5
  obtain ⟨-, ⟨r0, r1⟩, g0, g1⟩ := id Z5
  go_wp2_with fail
  clear k0 k1 f0 f1 r0 r1 g0 g1
  obtain ⟨-, ⟨e0, e1⟩, -⟩ := (Z5.put0 (.slice (some ⟨g, 0, none⟩) vn vc)).put1 (.int .i64 cop)
  have hcE := (c5.setNew4 (b := w.heap.size) hlt 0 (.slice (some ⟨g, 0, none⟩) vn vc)).setNew4 (b := w.heap.size) hlt 1 (.int .i64 cop)
  have hdE := (D5.setNew (b := w.heap.size) (Nat.le_refl _) 0 (.slice (some ⟨g, 0, none⟩) vn vc)).setNew (b := w.heap.size) (Nat.le_refl _) 1 (.int .i64 cop)
  have hoE := ((O5.far (b := w.heap.size) (o := 0) (by omega) (.slice (some ⟨g, 0, none⟩) vn vc)).far (b := w.heap.size) (o := 1) (by omega) (.int .i64 cop)).mono (base' := w.heap.size) (by omega)
  generalize (w5.setCell ⟨w.heap.size, 0, none⟩ (.slice (some ⟨g, 0, none⟩) vn vc)).setCell ⟨w.heap.size, 1, none⟩ (.int .i64 cop) = V at *
  refine bodyPost_ret (v := .agg #[.slice (some ⟨g, 0, none⟩) vn vc, .int .i64 cop]) (by simp [results, Tryz.results68, go_sem, e0, e1]) rfl ⟨⟨_, _, _, rfl, hoE, hl5, dU HA5, by omega, by omega⟩, hcE, hdE⟩
 have y1' : ((y : Int) == 1) = false := by simpa using y1
 clear y1
 by_cases y2 : ((y : Int) == 2) = true
 ·obtain ⟨-, ⟨k0, k1⟩, f0, f1⟩ := id X3
  obtain ⟨-, ⟨r0, r1⟩, g0, g1⟩ := id Z3
  go_wp2_with fail
  refine (pick_new hc3 [0, 8, 9] _ (by simp) (by simp) _).mono ?_
  rintro e w4 ⟨⟨t, ht, rfl⟩, hc4, hd4⟩
  have X4 : TwoZ w4 bx bx (.slice va vn vc) (.int .i64 cop) := X3.drawn hd4 (by omega)
  have Z4 : TwoZ w4 w.heap.size w.heap.size (.slice none 0 0) (.int .i64 0) := Z3.drawn hd4 (by omega)
  have D4 := D3.trans hd4
  obtain ⟨n, rfl⟩ : ∃ n : Nat, t = n := by
   simp only [List.mem_cons, List.mem_nil_iff, or_false] at ht
   exact ⟨t.toNat, by omega⟩
  have hn9 : n ≤ 9 := by
   simp only [List.mem_cons, List.mem_nil_iff, or_false] at ht
   omega
  have MK := makeN n (by omega) w4
  have hs4 := D4.size
  have hx4 := dCell_lt X4.2.1.1
  have ba := ha w4 (.cells (zerosN n) 3)
  have OZ : OwnN (w4.alloc (.cells (zerosN n) 3)) w4.heap.size (.slice (some ⟨w4.heap.size, 0, none⟩) n n) (List.replicate n 0) := zerosN_own n w4 (by omega)
  have X5 := X4.kept ba
  have Z5 := Z4.kept ba
  have c5 := hc4.below ba
  have D5 := D4.trans (Drawn.of_below ba)
  clear k0 k1 f0 f1 r0 r1 g0 g1 ht hd4 X3 Z3 O3 N3 hc3 D3 X4 Z4 hc4 D4 ba
  generalize w4.alloc (.cells (zerosN n) 3) = w5 at *
  obtain ⟨-, ⟨k0, k1⟩, f0, f1⟩ := id X5
  obtain ⟨-, ⟨r0, r1⟩, g0, g1⟩ := id Z5
  go_wp2_with fail
  have Z6 := Z5.far (b' := bx) (o := 0) (by omega) (.slice (some ⟨w4.heap.size, 0, none⟩) n n)
  have c6 := c5.setNew4 (b := bx) (by omega) 0 (.slice (some ⟨w4.heap.size, 0, none⟩) n n)
  have D6 := D5.setNew (b := bx) (by omega) 0 (.slice (some ⟨w4.heap.size, 0, none⟩) n n)
  have O6 := OZ.far (b := bx) (o := 0) (by omega) (.slice (some ⟨w4.heap.size, 0, none⟩) n n)
  clear k0 k1 f0 f1 r0 r1 g0 g1
  generalize w5.setCell ⟨bx, 0, none⟩ (.slice (some ⟨w4.heap.size, 0, none⟩) n n) = w6 at *
  obtain ⟨-, ⟨e0, e1⟩, -⟩ := (Z6.put0 (.slice (some ⟨w4.heap.size, 0, none⟩) n n)).put1 (.int .i64 cop)
  have hcE := (c6.setNew4 (b := w.heap.size) hlt 0 (.slice (some ⟨w4.heap.size, 0, none⟩) n n)).setNew4 (b := w.heap.size) hlt 1 (.int .i64 cop)
  have hdE := (D6.setNew (b := w.heap.size) (Nat.le_refl _) 0 (.slice (some ⟨w4.heap.size, 0, none⟩) n n)).setNew (b := w.heap.size) (Nat.le_refl _) 1 (.int .i64 cop)
  have hoE := ((O6.far (b := w.heap.size) (o := 0) (by omega) (.slice (some ⟨w4.heap.size, 0, none⟩) n n)).far (b := w.heap.size) (o := 1) (by omega) (.int .i64 cop)).mono (base' := w.heap.size) (by omega)
  generalize (w6.setCell ⟨w.heap.size, 0, none⟩ (.slice (some ⟨w4.heap.size, 0, none⟩) n n)).setCell ⟨w.heap.size, 1, none⟩ (.int .i64 cop) = V at *
  refine bodyPost_ret (v := .agg #[.slice (some ⟨w4.heap.size, 0, none⟩) n n, .int .i64 cop]) (by simp [results, Tryz.results68, go_sem, e0, e1]) rfl ⟨⟨_, _, _, rfl, hoE, by simp; omega, (fun d h => by rw [List.eq_of_mem_replicate h]; omega), by omega, by omega⟩, hcE, hdE⟩
 have y2' : ((y : Int) == 2) = false := by simpa using y2
 obtain ⟨-, ⟨k0, k1⟩, f0, f1⟩ := id X3
 obtain ⟨-, ⟨r0, r1⟩, g0, g1⟩ := id Z3
 go_wp2_with fail
 clear k0 k1 f0 f1 r0 r1 g0 g1
 obtain ⟨-, ⟨e0, e1⟩, -⟩ := (Z3.put0 (.slice va vn vc)).put1 (.int .i64 cop)
 have hcE := (hc3.setNew4 (b := w.heap.size) hlt 0 (.slice va vn vc)).setNew4 (b := w.heap.size) hlt 1 (.int .i64 cop)
 have hdE := (D3.setNew (b := w.heap.size) (Nat.le_refl _) 0 (.slice va vn vc)).setNew (b := w.heap.size) (Nat.le_refl _) 1 (.int .i64 cop)
 have hoE := ((N3.far (b := w.heap.size) (o := 0) (by omega) (.slice va vn vc)).far (b := w.heap.size) (o := 1) (by omega) (.int .i64 cop)).mono (base' := w.heap.size) (by omega)
 generalize (w3.setCell ⟨w.heap.size, 0, none⟩ (.slice va vn vc)).setCell ⟨w.heap.size, 1, none⟩ (.int .i64 cop) = V at *
 refine bodyPost_ret (v := .agg #[.slice va vn vc, .int .i64 cop]) (by simp [results, Tryz.results68, go_sem, e0, e1]) rfl ⟨⟨_, _, _, rfl, hoE, by omega, dU HA', by omega, by omega⟩, hcE, hdE⟩
theorem l1Max_one (n : Nat) (w : World) : Calls Tryz.prog 130 #[.int .i64 (n : Int), .int .i64 1] w fun e w' => e = .returned (.int .i64 ((max n 1 : Nat) : Int)) ∧ w' = w := by
 rcases Nat.eq_zero_or_pos n with h | h
 ·subst h
  go_enter Tryz.func130, Tryz.ntmps130
  go_wp2
  go_ret
  exact ⟨rfl, rfl⟩
 ·rw [Nat.max_eq_left h]
  by_cases h1 : (1 : Int) < (n : Int)
  ·go_enter Tryz.func130, Tryz.ntmps130
   go_wp2
   go_ret
   exact ⟨rfl, rfl⟩
  ·obtain rfl : n = 1 := by omega
   go_enter Tryz.func130, Tryz.ntmps130
   go_wp2
   go_ret
   exact ⟨rfl, rfl⟩
theorem rowN_ns {w : World} {B n : Nat} {v : Value} {l : List Int} (h : w.ownsRow B 3 1 v n (ncells l)) : Ns w v l := (ownN_of_row h).bs
theorem rowN_mono {w : World} {B B' n : Nat} {v : Value} {l : List Value} (h : w.ownsRow B 3 1 v n l) (hB : B' ≤ B) : w.ownsRow B' 3 1 v n l := by
 refine ⟨h.1, ?_⟩
 rcases h.2 with h0 | ⟨g, cap, cur, h1, h2, h3⟩
 ·exact .inl h0
 ·exact .inr ⟨g, cap, cur, h1, by omega, h3⟩
set_option maxHeartbeats 2000000 in
set_option maxRecDepth 100000 in
theorem l4DrawNodes_any (bk : Nat) (sv : Value) (ds : List Int) (cop : Int) (w : World) (hc : Cur w bk) (hv : Ns w sv ds) (hl : ds.length ≤ 9) :
  Calls Tryz.prog 92 #[.pointer (some ⟨bk, 0, none⟩), .agg #[sv, .int .i64 cop]] w fun e w' => (∃ (u : Value) (zs : List Int), e = .returned u ∧ w'.ownsRow w.heap.size 3 1 u zs.length (ncells zs) ∧ zs.length ≤ 20 ∧ (∀ z ∈ zs, -1 ≤ z ∧ z ≤ 9)) ∧ Cur w' bk ∧ Drawn bk w w' := by
 have hlt := hc.lt
 have ha : ∀ (w : World) o, Below w.heap.size w (w.alloc o) := fun w o => (Below.refl _ _).alloc (Nat.le_refl _) o
 obtain ⟨h0, a, cap, rfl, -, -⟩ := hv
 go_enter Tryz.func92, Tryz.ntmps92
 go_wp2_with fail
 have Z0 := TwoZ.fresh w (.slice a ds.length cap) (.int .i64 cop) 26
 have hc0 := hc.below (ha w (.cells #[.slice a ds.length cap, .int .i64 cop] 26))
 have D0 := Drawn.of_below (bk := bk) (ha w (.cells #[.slice a ds.length cap, .int .i64 cop] 26))
 generalize hw0 : w.alloc (.cells #[.slice a ds.length cap, .int .i64 cop] 26) = w0 at *
 have O1 : (w0.alloc (.cells #[] 3)).ownsRow w.heap.size 3 1 (.slice (some ⟨w0.heap.size, 0, none⟩) 0 0) 0 (ncells []) := World.ownsRow_made w0 #[] 0 D0.size (by decide) (by simp)
 have hs0 : w0.heap.size = w.heap.size + 1 := by rw [← hw0]; simp
 rw [hs0] at O1
 have Z1 := Z0.kept (ha w0 (.cells #[] 3))
 have hc1 := hc0.below (ha w0 (.cells #[] 3))
 have D1 := D0.trans (Drawn.of_below (ha w0 (.cells #[] 3)))
 clear hw0 hs0 Z0 hc0 D0 hc
 generalize w0.alloc (.cells #[] 3) = w1 at *
 rw [show ((ds.length : Int) + 2) = ((ds.length + 2 : Nat) : Int) by push_cast; rfl]
 refine (l1Below_any bk (ds.length + 2) (by omega) (by omega) _ hc1).mono ?_
 rintro e w2 ⟨⟨n, hn, rfl⟩, hc2, hd2⟩
 have Z2 : TwoZ w2 w.heap.size w.heap.size (.slice a ds.length cap) (.int .i64 cop) := Z1.drawn hd2 (by omega)
 have O2 := dH (rowN_drawn O1 hd2 hlt)
 have D2 := dH (D1.trans hd2)
 have HZ2 := dH Z2
 have HC2 := dH hc2
 have hn' : n ≤ 10 := by omega
 clear Z1 O1 D1 hc1 hd2 Z2 hc2
 go_wp2
 go_loopw [5, 7] (fun o xi wr => ∃ (k : Nat) (zs : List Int), xi = .int .i64 (k : Int) ∧ k ≤ n ∧ Hid (TwoZ wr w.heap.size w.heap.size (.slice a ds.length cap) (.int .i64 cop)) ∧ Hid (Cur wr bk) ∧ Hid (Drawn bk w wr) ∧ Hid (wr.ownsRow w.heap.size 3 1 o zs.length (ncells zs)) ∧ zs.length ≤ k ∧ Hid (∀ z ∈ zs, -1 ≤ z ∧ z ≤ 9)) (fun _ xi _ => n - (intOf xi).toNat)
 case atStart => exact ⟨0, [], rfl, Nat.zero_le _, HZ2, HC2, D2, O2, by simp, (fun z h => by cases h)⟩
 case round =>
  obtain ⟨k, zs, rfl, hk, HZ, HC, HD, HO, hzl, HA⟩ := hrel
  clear HZ2 HC2 D2 O2
  obtain ⟨zb, ⟨k0, k1⟩, f0, f1⟩ := id (dU HZ)
  by_cases hkn : (k : Int) < (n : Int)
  ·go_wp2_with (go_at_call 130; refine (l1Max_one ds.length _).mono ?_; rintro e w' ⟨rfl, rfl⟩)
   refine (l1Below_any bk (max ds.length 1) (by omega) (by omega) _ (dU HC)).mono ?_
   rintro e w3 ⟨⟨y, hy, rfl⟩, hc3, hd3⟩
   have Z3 := dH ((dU HZ).drawn hd3 (by omega))
   have O3 := rowN_drawn (dU HO) hd3 hlt
   have D3 := dH ((dU HD).trans hd3)
   have C3 := dH hc3
   have PT := l4Put_any _ zs (y : Int) w3 (rowN_ns O3) (by omega)
   have hs3 := (dU D3).size
   clear HZ HC HD HO k0 k1 f0 f1 hd3 hc3 O3
   go_wp2_with fail
   refine PT.mono ?_
   rintro e w4 ⟨⟨u4, zs4, rfl, O4, hz4, P4⟩, b4⟩
   have Z4 := dH ((dU Z3).kept b4)
   have D4 := dH ((dU D3).trans (Drawn.of_below b4))
   have C4 := dH ((dU C3).below b4)
   have O4' := dH (rowN_mono O4 hs3)
   have HA4 : Hid (∀ z ∈ zs4, -1 ≤ z ∧ z ≤ 9) := fun z h => by
    rcases P4 z h with h1 | h1
    ·rw [h1]; omega
    ·exact dU HA z h1
   clear PT Z3 D3 C3 O4 P4 b4 HA
   go_wp2
   go_roundw
   case rel => exact ⟨k + 1, zs4, by go_num, by omega, Z4, C4, D4, O4', by omega, HA4⟩
   case measure => simp [intOf]; omega
  ·go_wp2_with fail
   refine (l1Once_any bk 20 (by omega) (by omega) _ (dU HC)).mono ?_
   rintro e w3 ⟨⟨bb, rfl⟩, hc3, hd3⟩
   have Z3 : TwoZ w3 w.heap.size w.heap.size (.slice a ds.length cap) (.int .i64 cop) := (dU HZ).drawn hd3 (by omega)
   have O3 := rowN_drawn (dU HO) hd3 hlt
   have D3 := (dU HD).trans hd3
   have HA := dU HA
   clear HZ HC HD HO k0 k1 f0 f1 hd3
   cases bb
   ·go_wp2
    go_ret
    refine ⟨?_, hc3, D3⟩
    first | exact ⟨_, zs, rfl, O3, by omega, HA⟩ | exact ⟨_, rfl, zs, O3, by omega, HA⟩
   ·obtain ⟨-, ⟨k0, k1⟩, f0, f1⟩ := id Z3
    go_wp2_with fail
    refine (pick_new hc3 [-1, 0, (ds.length : Int)] _ (by simp) (by simp) _).mono ?_
    rintro e w4 ⟨⟨t, ht, rfl⟩, hc4, hd4⟩
    have O4 := rowN_drawn O3 hd4 hlt
    have D4 := D3.trans hd4
    have htb : -1 ≤ t ∧ t ≤ 9 := by
     simp only [List.mem_cons, List.mem_nil_iff, or_false] at ht
     omega
    have hs4 := D4.size
    have l4 := O4.lt
    clear Z3 O3 D3 hc3 hd4 k0 k1 f0 f1 ht
    go_wp2_with (at_builtin; refine appN _ rfl _ _ rfl w.heap.size _ zs rfl (O4.alloc _) ⟨w4.heap.size, 0, none⟩ 1 1 [t] rfl rfl (one_int _ _ _) ?c3 ?c4 ?_)
    case c3 => (try simp only [List.length_cons, List.length_nil]); omega
    case c4 => simp; omega
    intro v5 w5 o5 r5
    have ba : Below w4.heap.size w4 (w4.alloc (.cells #[.int .i64 t] 3)) := (Below.refl _ _).alloc (Nat.le_refl _) _
    have c5 : Cur w5 bk := (hc4.below ba).grown r5 (fun k hk => by have := (l4 k hk).1; omega)
    have D5 : Drawn bk w w5 := (D4.trans (Drawn.of_below ba)).grew r5 (fun k hk => (l4 k hk).1)
    have hA5 : ∀ z ∈ zs ++ [t], -1 ≤ z ∧ z ≤ 9 := fun z h => by
     rcases List.mem_append.1 h with h1 | h1
     ·exact HA z h1
     ·rw [List.mem_singleton.1 h1]; exact htb
    have HA5 := dH hA5
    have o5 := dH (own_lenN o5)
    clear O4 D4 hc4 r5 l4 ba hA5 HA
    go_wp2
    go_ret
    refine ⟨?_, c5, D5⟩
    first | exact ⟨_, zs ++ [t], rfl, dU o5, by simp; omega, dU HA5⟩ | exact ⟨_, rfl, zs ++ [t], dU o5, by simp; omega, dU HA5⟩
def DrewC (B : Nat) (c : Value) (ds : List Int) (cop : Int) (W : World) : Prop := ∃ sv, c = .agg #[sv, .int .i64 cop] ∧ OwnN W B sv ds ∧ ds.length ≤ 9 ∧ allInt ds ∧ 0 ≤ cop ∧ cop ≤ 5
def DrewL (B : Nat) (u : Value) (zs : List Int) (W : World) : Prop := OwnN W B u zs ∧ zs.length ≤ 20 ∧ allInt zs
theorem DrewC.below {B : Nat} {c : Value} {ds : List Int} {cop : Int} {W W' : World} (h : DrewC B c ds cop W) (b : Below W.heap.size W W') : DrewC B c ds cop W' := by
 obtain ⟨sv, h1, h2, h3⟩ := h; exact ⟨sv, h1, h2.below b, h3⟩
theorem DrewL.below {B : Nat} {u : Value} {zs : List Int} {W W' : World} (h : DrewL B u zs W) (b : Below W.heap.size W W') : DrewL B u zs W' := ⟨h.1.below b, h.2⟩
theorem OwnN.drawn {bk : Nat} {w w' : World} {base : Nat} {v : Value} {xs : List Int} (h : OwnN w base v xs) (hd : Drawn bk w w') (hb : bk < base) : OwnN w' base v xs := by
 obtain ⟨h0, a, cap, rfl, hcap, h⟩ := h
 refine ⟨h0, a, cap, rfl, hcap, ?_⟩
 rcases h with h | ⟨b, off, rfl, hbb, hc⟩
 ·exact .inl h
 ·exact .inr ⟨b, off, rfl, hbb, fun i hi => ⟨hd.cell (hc i hi).1 (by omega), (hd.frozen (by omega) (dCell_lt (hc i hi).1)).trans (hc i hi).2⟩⟩
theorem DrewC.far {B : Nat} {c : Value} {ds : List Int} {cop : Int} {W : World} (h : DrewC B c ds cop W) {b o : Nat} (hb : b < B) (u : Value) : DrewC B c ds cop (W.setCell ⟨b, o, none⟩ u) := by
 obtain ⟨sv, h1, h2, h3⟩ := h; exact ⟨sv, h1, h2.far hb u, h3⟩
theorem DrewL.far {B : Nat} {v : Value} {zs : List Int} {W : World} (h : DrewL B v zs W) {b o : Nat} (hb : b < B) (u : Value) : DrewL B v zs (W.setCell ⟨b, o, none⟩ u) := ⟨h.1.far hb u, h.2⟩
theorem DrewC.mono {B B' : Nat} {c : Value} {ds : List Int} {cop : Int} {W : World} (h : DrewC B c ds cop W) (hb : B' ≤ B) : DrewC B' c ds cop W := by
 obtain ⟨sv, h1, h2, h3⟩ := h; exact ⟨sv, h1, h2.mono hb, h3⟩
theorem DrewL.mono {B B' : Nat} {v : Value} {zs : List Int} {W : World} (h : DrewL B v zs W) (hb : B' ≤ B) : DrewL B' v zs W := ⟨h.1.mono hb, h.2⟩
end Go.Proofs.YtjkjmapibcfcdaaGreat
