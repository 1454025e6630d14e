/- Several texts in one: PlaceA, PlaceB, EntA, PlaceC, DrwA. -/
import Derived.Test.YthndkkjgjhgdnaaGreatDoorRows
import Derived.Handy
import Derived.Outline
import Derived.Deep.RegionWith
import Derived.Test.YthndkkjgjhgdnaaGreatDoorGaA
import Derived.Test.YthndkkjgjhgdnaaGreatDoorGaC
import Derived.Test.YthndkkjgjhgdnaaGreatDoorGk75
namespace Go.Proofs.YthndkkjgjhgdnaaGreatDoor
open Go.ChangeShapes Go.WideShapes Go.ChangeAt Go.RowKit
set_option linter.unusedVariables false

theorem checked_yes (a b : Int) (h1 : 1 ≤ a) (h2 : a ≤ 30) (h3 : 1 ≤ b) (h4 : b ≤ 60) (w : World) :
    Calls Tryz.prog 146 #[.agg #[.int .i64 a, .int .i64 b]] w fun e w' => e = .returned (.agg #[.int .i64 a, .int .i64 b]) ∧ (w.alloc (.cells #[.int .i64 a, .int .i64 b] 204)).alloc (.cells #[.int .i64 a, .int .i64 b] 204) = w' := by
  go_enter Tryz.func146, Tryz.ntmps146
  go_wp2
  go_returns
  exact ⟨rfl, rfl⟩
theorem checked_no (a b : Int) (h : a < 1 ∨ 30 < a ∨ b < 1 ∨ 60 < b) (w : World) :
    Calls Tryz.prog 146 #[.agg #[.int .i64 a, .int .i64 b]] w fun e w' => e = .returned (.agg #[.int .i64 0, .int .i64 0]) ∧ (w.alloc (.cells #[.int .i64 a, .int .i64 b] 204)).alloc (.cells #[.int .i64 0, .int .i64 0] 204) = w' := by
  by_cases h1 : a < 1
  · go_enter Tryz.func146, Tryz.ntmps146
    go_wp2
    go_returns
    exact ⟨rfl, rfl⟩
  · by_cases h2 : 30 < a
    · go_enter Tryz.func146, Tryz.ntmps146
      go_wp2
      go_returns
      exact ⟨rfl, rfl⟩
    · by_cases h3 : b < 1
      · go_enter Tryz.func146, Tryz.ntmps146
        go_wp2
        go_returns
        exact ⟨rfl, rfl⟩
      · have h4 : 60 < b := by omega
        clear h
        go_enter Tryz.func146, Tryz.ntmps146
        go_wp2
        go_returns
        exact ⟨rfl, rfl⟩
end Go.Proofs.YthndkkjgjhgdnaaGreatDoor
namespace Go.Proofs.YthndkkjgjhgdnaaGreatDoor
open Go.ChangeShapes Go.WideShapes Go.ChangeAt Go.RowKit
set_option linter.unusedVariables false

theorem bcell {W w1 : World} (hb : Below W.heap.size W w1) : (∀ b o, b < W.heap.size → w1.cell? ⟨b, o, none⟩ = W.cell? ⟨b, o, none⟩) ∧ (∀ b o, b < W.heap.size → w1.frozen? ⟨b, o, none⟩ = W.frozen? ⟨b, o, none⟩) :=
  ⟨fun b o h => hb.cell (p := ⟨b, o, none⟩) h, fun b o h => hb.frozen (p := ⟨b, o, none⟩) h⟩

theorem hide {p : Prop} (h : p) : Hid p := h
theorem unhide {p : Prop} (h : Hid p) : p := h

theorem split_yes (x : Int) (h0 : 0 < x) (h1 : 1 ≤ x / 4294967296) (h2 : x / 4294967296 ≤ 30) (h3 : 1 ≤ x % 4294967296) (h4 : x % 4294967296 ≤ 60) (w : World) :
    Calls Tryz.prog 136 #[.int .i64 x] w fun e w' => e = .returned (.agg #[.int .i64 (x / 4294967296), .int .i64 (x % 4294967296)]) ∧ Below w.heap.size w w' := by
  have hx : x ≤ 9223372036854775807 := by omega
  go_enter Tryz.func136, Tryz.ntmps136
  go_wp2_with (go_at_call 146; refine (checked_yes _ _ h1 h2 h3 h4 _).mono ?_; rintro e w1 ⟨rfl, rfl⟩)
  go_returns
  exact ⟨rfl, by go_grown⟩
theorem split_no_aid (x : Int) (h : ¬ (0 < x ∧ 1 ≤ x / 4294967296 ∧ x / 4294967296 ≤ 30 ∧ 1 ≤ x % 4294967296 ∧ x % 4294967296 ≤ 60)) (l : -9223372036854775808 ≤ x) (u : x ≤ 9223372036854775807) :
    wrap64 (x.tdiv 4294967296) < 1 ∨ 30 < wrap64 (x.tdiv 4294967296) ∨ x.tmod 4294967296 < 1 ∨ 60 < x.tmod 4294967296 := by
  by_cases h0 : 0 < x
  · rw [Int.tdiv_eq_ediv_of_nonneg (by omega), Int.tmod_eq_emod_of_nonneg (by omega)]
    have : wrap64 (x / 4294967296) = x / 4294967296 := IntWalk.wrap64_in _ (by omega)
    rw [this]
    omega
  · refine .inr (.inr (.inl ?_))
    obtain ⟨y, rfl⟩ : ∃ y, x = -y := ⟨-x, by omega⟩
    rw [Int.neg_tmod, Int.tmod_eq_emod_of_nonneg (by omega)]
    omega
theorem split_no (x : Int) (l : -9223372036854775808 ≤ x) (u : x ≤ 9223372036854775807) (h : ¬ (0 < x ∧ 1 ≤ x / 4294967296 ∧ x / 4294967296 ≤ 30 ∧ 1 ≤ x % 4294967296 ∧ x % 4294967296 ≤ 60)) (w : World) :
    Calls Tryz.prog 136 #[.int .i64 x] w fun e w' => e = .returned (.agg #[.int .i64 0, .int .i64 0]) ∧ Below w.heap.size w w' := by
  have H := hide (split_no_aid x h l u)
  clear h l u
  go_enter Tryz.func136, Tryz.ntmps136
  go_wp2_with (go_at_call 146; refine (checked_no _ _ (unhide H) _).mono ?_; rintro e w1 ⟨rfl, rfl⟩)
  go_returns
  exact ⟨rfl, by go_grown⟩

/-- x is a place. -/
def isPl (x : Int) : Prop := 0 < x ∧ 1 ≤ x / 4294967296 ∧ x / 4294967296 ≤ 30 ∧ 1 ≤ x % 4294967296 ∧ x % 4294967296 ≤ 60

theorem specOk_yes (x : Int) (h : isPl x) (w : World) :
    Calls Tryz.prog 52 #[.int .i64 x] w fun e w' => e = .returned (.bool true) ∧ w = w' := by
  obtain ⟨h0, h1, h2, h3, h4⟩ := h
  have hx : x ≤ 9223372036854775807 := by omega
  go_enter Tryz.func52, Tryz.ntmps52
  go_wp2
  go_ret
  exact ⟨rfl, rfl⟩
theorem specOk_no (x : Int) (u : x ≤ 9223372036854775807) (h : ¬ isPl x) (w : World) :
    Calls Tryz.prog 52 #[.int .i64 x] w fun e w' => e = .returned (.bool false) ∧ w = w' := by
  unfold isPl at h
  by_cases h0 : 0 < x
  · by_cases h1 : 1 ≤ x / 4294967296
    · by_cases h2 : x / 4294967296 ≤ 30
      · by_cases h3 : 1 ≤ x % 4294967296
        · have h4 : ¬ x % 4294967296 ≤ 60 := by omega
          clear h
          go_enter Tryz.func52, Tryz.ntmps52
          go_wp2
          go_ret
          exact ⟨rfl, rfl⟩
        · clear h
          go_enter Tryz.func52, Tryz.ntmps52
          go_wp2
          go_ret
          exact ⟨rfl, rfl⟩
      · clear h
        go_enter Tryz.func52, Tryz.ntmps52
        go_wp2
        go_ret
        exact ⟨rfl, rfl⟩
    · clear h
      go_enter Tryz.func52, Tryz.ntmps52
      go_wp2
      go_ret
      exact ⟨rfl, rfl⟩
  · clear h
    go_enter Tryz.func52, Tryz.ntmps52
    go_wp2
    go_ret
    exact ⟨rfl, rfl⟩
theorem specEpoch_yes (x : Int) (h : isPl x) (w : World) :
    Calls Tryz.prog 53 #[.int .i64 x] w fun e w' => e = .returned (.int .i64 (x / 4294967296)) ∧ w = w' := by
  have hx := h
  obtain ⟨h0, h1, h2, h3, h4⟩ := hx
  have hx : x ≤ 9223372036854775807 := by omega
  go_enter Tryz.func53, Tryz.ntmps53
  go_wp2_with (go_at_call 52; refine (specOk_yes x h _).mono ?_; rintro e w1 ⟨rfl, rfl⟩)
  go_ret
  exact ⟨rfl, rfl⟩
theorem specEpoch_no (x : Int) (u : x ≤ 9223372036854775807) (h : ¬ isPl x) (w : World) :
    Calls Tryz.prog 53 #[.int .i64 x] w fun e w' => e = .returned (.int .i64 0) ∧ w = w' := by
  go_enter Tryz.func53, Tryz.ntmps53
  go_wp2_with (go_at_call 52; refine (specOk_no x u h _).mono ?_; rintro e w1 ⟨rfl, rfl⟩)
  go_ret
  exact ⟨rfl, rfl⟩
end Go.Proofs.YthndkkjgjhgdnaaGreatDoor
namespace Go.Proofs.YthndkkjgjhgdnaaGreatDoor
open Go.ChangeShapes Go.WideShapes Go.ChangeAt Go.RowKit
set_option linter.unusedVariables false

/-- An entry. -/
structure Ent where
  pl : Int
  wave : Int
  hole : Bool
  data : ByteArray
/-- An entry as a value. -/
def Ent.val (e : Ent) : Value := .agg #[.int .i64 e.pl, .int .i64 e.wave, .bool e.hole, .string e.data]
/-- Its numbers are ints. -/
def Ent.fits (e : Ent) : Prop := -9223372036854775808 ≤ e.pl ∧ e.pl ≤ 9223372036854775807 ∧ -9223372036854775808 ≤ e.wave ∧ e.wave ≤ 9223372036854775807 ∧ e.data.size ≤ 9223372036854775807
/-- An entry that is right. -/
def entP (e : Ent) : Prop := isPl e.pl ∧ 0 ≤ e.wave ∧ e.wave ≤ 30 ∧ (0 < e.wave → e.pl / 4294967296 < e.wave) ∧ e.data.size ≤ 40 ∧ (e.hole = true → 0 < e.wave ∧ e.data.size = 0)
end Go.Proofs.YthndkkjgjhgdnaaGreatDoor
namespace Go.Proofs.YthndkkjgjhgdnaaGreatDoor
open Go.ChangeShapes Go.WideShapes Go.ChangeAt Go.RowKit
set_option linter.unusedVariables false

theorem field_epoch (a b : Int) (w : World) : (Instr.field 204 (.agg #[.int .i64 a, .int .i64 b]) 0).run Tryz.prog w = .ok (.int .i64 a) w := by kernel_rfl
theorem field_off (a b : Int) (w : World) : (Instr.field 204 (.agg #[.int .i64 a, .int .i64 b]) 1).run Tryz.prog w = .ok (.int .i64 b) w := by kernel_rfl
theorem implEpoch_yes (x : Int) (h : isPl x) (w : World) :
    Calls Tryz.prog 120 #[.int .i64 x] w fun e w' => e = .returned (.int .i64 (x / 4294967296)) ∧ Below w.heap.size w w' := by
  obtain ⟨h0, h1, h2, h3, h4⟩ := h
  have hfe := field_epoch
  go_enter Tryz.func120, Tryz.ntmps120
  go_wp2_with (go_at_call 136; refine (split_yes x h0 h1 h2 h3 h4 _).mono ?_; rintro e w1 ⟨rfl, hb⟩)
  go_ret
  exact ⟨rfl, hb⟩
theorem implEpoch_no (x : Int) (l : -9223372036854775808 ≤ x) (u : x ≤ 9223372036854775807) (h : ¬ isPl x) (w : World) :
    Calls Tryz.prog 120 #[.int .i64 x] w fun e w' => e = .returned (.int .i64 0) ∧ Below w.heap.size w w' := by
  have hfe := field_epoch
  go_enter Tryz.func120, Tryz.ntmps120
  go_wp2_with (go_at_call 136; refine (split_no x l u h _).mono ?_; rintro e w1 ⟨rfl, hb⟩)
  go_ret
  exact ⟨rfl, hb⟩
end Go.Proofs.YthndkkjgjhgdnaaGreatDoor
namespace Go.Proofs.YthndkkjgjhgdnaaGreatDoor
open Go.ChangeShapes Go.WideShapes Go.ChangeAt Go.RowKit
set_option linter.unusedVariables false
set_option linter.unusedSimpArgs false

/-- What is put: a list of what was there and of y. -/
def PutL (xs zs : List Int) (y : Int) : Prop := ∀ z ∈ zs, z = y ∨ z ∈ xs
set_option maxHeartbeats 1000000 in
theorem l4Put_any (v : Value) (xs : List Int) (y : Int) (w : World) (hv : Ns w v xs) (hl : xs.length ≤ 1000000) :
    Calls Tryz.prog 103 #[v, .int .i64 y] w fun e w' => (∃ u zs, e = .returned u ∧ w'.ownsRow w.heap.size 3 1 u zs.length (ncells zs) ∧ zs.length ≤ xs.length + 1 ∧ PutL xs zs y) ∧ Below w.heap.size w w' := by
  have CH := dHide fun W (hb : Below w.heap.size w W) => l4Has_any v xs y W (hv.below hb)
  obtain ⟨h0, a, cap, rfl, -, hu⟩ := hv
  have HU := dHide hu
  clear hu
  go_enter Tryz.func103, Tryz.ntmps103
  go_wp2_with fail
  refine (dUnhide CH _ ((Below.refl _ _).alloc (Nat.le_refl _) _)).mono ?_
  rintro e w1 ⟨⟨bb, rfl, hbb⟩, rfl⟩
  clear hbb CH
  go_wp2
  go_loopw [5, 6, 7] (fun o q x wr => ∃ (k : Nat) (p : Bool) (zs : List Int), x = .int .i64 (k : Int) ∧ q = .bool p ∧ k ≤ xs.length ∧ wr.ownsRow w.heap.size 3 1 o zs.length (ncells zs) ∧ zs.length ≤ k + 1 ∧ (p = false → zs.length ≤ k) ∧ Hid (PutL xs zs y) ∧ Below w.heap.size w wr) (fun _ _ x _ => xs.length - (intOf x).toNat)
  case atStart => exact ⟨0, bb, [], rfl, rfl, Nat.zero_le _, World.ownsRow_made w #[] 0 (Nat.le_refl _) (by decide) (by simp), by simp, by simp, (fun z h => by cases h), (Below.refl _ _).alloc (Nat.le_refl _) _⟩
  case round =>
    obtain ⟨k, p, zs, rfl, rfl, hk, hown, hz1, hz2, hm, hb⟩ := hrel
    have hlt' := hown.lt
    by_cases hlt : (k : Int) < (xs.length : Int)
    · obtain ⟨b, off, rfl, hc⟩ : ∃ b off, a = some ⟨b, off, none⟩ ∧ ∀ i (h : i < xs.length), w.cell? ⟨b, off + i, none⟩ = some (.int .i64 xs[i]) := orN_of_lt (dUnhide HU) (k := k) (by omega)
      have hkl : k < xs.length := by omega
      have c0 := dHide (hc k hkl)
      have c1 : wr.cell? ⟨b, off + k, none⟩ = some (.int .i64 xs[k]) := (hb.cell (p := ⟨b, off + k, none⟩) (dCell_lt (hc k hkl))).trans (hc k hkl)
      have hin : Hid (xs[k] ∈ xs) := List.getElem_mem hkl
      generalize xs[k] = x at *
      clear hc
      have step2 : ∀ (zs' : List Int), Hid (PutL xs zs' y) → Hid (PutL xs (zs' ++ [x]) y) := fun zs' h z hz => by
        rcases List.mem_append.1 hz with h1 | h1
        · exact dUnhide h z h1
        · rw [List.mem_singleton.1 h1]; exact .inr (dUnhide hin)
      have step1 : ∀ (zs' : List Int), Hid (PutL xs zs' y) → Hid (PutL xs (zs' ++ [y]) y) := fun zs' h z hz => by
        rcases List.mem_append.1 hz with h1 | h1
        · exact dUnhide h z h1
        · exact .inl (List.mem_singleton.1 h1)
      have S1 := dHide step1
      have S2 := dHide step2
      clear step1 step2
      have hxb : (decide (y < x)) = true ∨ (decide (y < x)) = false := by cases decide (y < x) <;> simp
      by_cases hp : p = false ∧ y < x
      · obtain ⟨rfl, hyx⟩ := hp
        have hz3 := hz2 rfl
        clear hxb
        go_wp2_with (at_builtin; refine appN _ rfl _ _ rfl w.heap.size _ zs rfl (hown.alloc _) ⟨wr.heap.size, 0, none⟩ 1 1 [y] rfl rfl (one_int _ _ _) ?c3 ?c4 ?_)
        case c3 => (try simp only [List.length_append, List.length_cons, List.length_nil]); omega
        case c4 => have := hb.size; simp; omega
        intro v' w2 hown' hgrow
        have hb2 : Below w.heap.size w w2 := (hb.alloc hb.size _).grown hgrow (by have := hb.size; simp; omega) (fun k hk => (hlt' k hk).1)
        have hown2 := own_lenN hown'
        have c2 : w2.cell? ⟨b, off + k, none⟩ = some (.int .i64 x) := (hb2.cell (p := ⟨b, off + k, none⟩) (dCell_lt (dUnhide c0))).trans (dUnhide c0)
        have hlt2 := hown2.lt
        have HM := dUnhide S2 _ (dUnhide S1 _ hm)
        clear hown hown' hgrow hb hlt' c1 hm
        go_wp2_with (at_builtin; refine appN _ rfl _ _ rfl w.heap.size _ (zs ++ [y]) rfl (hown2.alloc _) ⟨w2.heap.size, 0, none⟩ 1 1 [x] rfl rfl (one_int _ _ _) ?c3 ?c4 ?_)
        case c3 => (try simp only [List.length_append, List.length_cons, List.length_nil]); omega
        case c4 => have := hb2.size; simp; omega
        intro v'' w3 hown3 hgrow3
        have hb3 : Below w.heap.size w w3 := (hb2.alloc hb2.size _).grown hgrow3 (by have := hb2.size; simp; omega) (fun k hk => (hlt2 k hk).1)
        have hown4 := own_lenN hown3
        clear hown2 hown3 hgrow3 hb2 hlt2 c2
        go_wp2
        go_roundw
        case rel => exact ⟨k + 1, true, _, by go_num, rfl, by omega, hown4, by simp; omega, (fun h => by cases h), by simpa using HM, hb3⟩
        case measure => simp [intOf]; omega
      · have hpx : p = true ∨ ¬ y < x := by
          cases p
          · exact .inr fun h => hp ⟨rfl, h⟩
          · exact .inl rfl
        have HM := dUnhide S2 _ hm
        clear hp hxb hm
        have hgo : ∀ (q : Bool), p = q → (q = true ∨ ¬ y < x) → True := fun _ _ _ => trivial
        clear hgo
        cases p
        · have hyx : ¬ y < x := by rcases hpx with h | h; cases h; exact h
          clear hpx
          have hz3 := hz2 rfl
          go_wp2_with (at_builtin; refine appN _ rfl _ _ rfl w.heap.size _ zs rfl (hown.alloc _) ⟨wr.heap.size, 0, none⟩ 1 1 [x] rfl rfl (one_int _ _ _) ?c3 ?c4 ?_)
          case c3 => (try simp only [List.length_append, List.length_cons, List.length_nil]); omega
          case c4 => have := hb.size; simp; omega
          intro v' w2 hown' hgrow
          have hb2 : Below w.heap.size w w2 := (hb.alloc hb.size _).grown hgrow (by have := hb.size; simp; omega) (fun k hk => (hlt' k hk).1)
          have hown2 := own_lenN hown'
          clear hown hown' hgrow hb hlt' c1
          go_wp2
          go_roundw
          case rel => exact ⟨k + 1, false, _, by go_num, rfl, by omega, hown2, by simp; omega, (fun _ => by simp; omega), HM, hb2⟩
          case measure => simp [intOf]; omega
        · clear hpx
          go_wp2_with (at_builtin; refine appN _ rfl _ _ rfl w.heap.size _ zs rfl (hown.alloc _) ⟨wr.heap.size, 0, none⟩ 1 1 [x] rfl rfl (one_int _ _ _) ?c3 ?c4 ?_)
          case c3 => (try simp only [List.length_append, List.length_cons, List.length_nil]); omega
          case c4 => have := hb.size; simp; omega
          intro v' w2 hown' hgrow
          have hb2 : Below w.heap.size w w2 := (hb.alloc hb.size _).grown hgrow (by have := hb.size; simp; omega) (fun k hk => (hlt' k hk).1)
          have hown2 := own_lenN hown'
          clear hown hown' hgrow hb hlt' c1
          go_wp2
          go_roundw
          case rel => exact ⟨k + 1, true, _, by go_num, rfl, by omega, hown2, by simp; omega, (fun h => by cases h), HM, hb2⟩
          case measure => simp [intOf]; omega
    · have step1 : ∀ (zs' : List Int), Hid (PutL xs zs' y) → Hid (PutL xs (zs' ++ [y]) y) := fun zs' h z hz => by
        rcases List.mem_append.1 hz with h1 | h1
        · exact dUnhide h z h1
        · exact .inl (List.mem_singleton.1 h1)
      have S1 := dHide step1
      clear step1 HU
      cases p
      · have hz3 := hz2 rfl
        go_wp2_with (at_builtin; refine appN _ rfl _ _ rfl w.heap.size _ zs rfl (hown.alloc _) ⟨wr.heap.size, 0, none⟩ 1 1 [y] rfl rfl (one_int _ _ _) ?c3 ?c4 ?_)
        case c3 => (try simp only [List.length_append, List.length_cons, List.length_nil]); omega
        case c4 => have := hb.size; simp; omega
        intro v' w2 hown' hgrow
        have hb2 : Below w.heap.size w w2 := (hb.alloc hb.size _).grown hgrow (by have := hb.size; simp; omega) (fun k hk => (hlt' k hk).1)
        have hown2 := own_lenN hown'
        have HM := dUnhide S1 _ hm
        clear hown hown' hgrow hb hlt' hm
        go_wp2
        go_ret
        first | exact ⟨⟨_, _, rfl, hown2, by simp; omega, HM⟩, hb2⟩ | exact ⟨⟨_, rfl, _, hown2, by simp; omega, HM⟩, hb2⟩
      · go_wp2
        go_ret
        first | exact ⟨⟨_, _, rfl, hown, by omega, hm⟩, hb⟩ | exact ⟨⟨_, rfl, _, hown, by omega, hm⟩, hb⟩
end Go.Proofs.YthndkkjgjhgdnaaGreatDoor
