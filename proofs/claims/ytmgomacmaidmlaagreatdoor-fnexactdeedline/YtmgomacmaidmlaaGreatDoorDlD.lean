/- The lines of deeds: impl's side. -/
import Derived.Test.YtmgomacmaidmlaaGreatDoorDlC
import Derived.Test.YtmgomacmaidmlaaGreatDoorEvI
import Derived.Test.YtmgomacmaidmlaaGreatDoorL13Deed
import Derived.Test.YtmgomacmaidmlaaGreatDoorShelf
import Derived.Lib.IndexLaws
namespace Go.Proofs.YtmgomacmaidmlaaGreatDoor
open Go.ChangeShapes Go.WideShapes Go.ChangeAt Go.RowKit
set_option linter.unusedVariables false
set_option linter.unusedSimpArgs false
set_option maxRecDepth 100000

/-- Texts behind a word, a blank before each. -/
def lineS (wd : ByteArray) (r : List ByteArray) : ByteArray := r.foldl (fun o x => (o ++ ⟨#[32]⟩) ++ x) wd
theorem lineS_list (wd : ByteArray) (r : List ByteArray) : (lineS wd r).data.toList = wd.data.toList ++ Lib.joinTail [32] (r.map (·.data.toList)) := by
  induction r generalizing wd with
  | nil => simp [lineS, Lib.joinTail]
  | cons x r ih =>
    have h := ih ((wd ++ ⟨#[32]⟩) ++ x)
    unfold lineS at h ⊢
    rw [List.foldl_cons, h]
    simp [Lib.joinTail]
theorem lineS_join (wd : ByteArray) (r : List ByteArray) : (⟨(Lib.join ((wd :: r).map (·.data.toList)) [32]).toArray⟩ : ByteArray) = lineS wd r := by
  have h := lineS_list wd r
  rw [List.map_cons, Lib.join_cons, ← h]
theorem indexByte_iff (l : List UInt8) (c : UInt8) : 0 ≤ Lib.indexByte l c ↔ c ∈ l := by
  induction l with
  | nil => simp [Lib.indexByte]
  | cons b l ih =>
    unfold Lib.indexByte
    by_cases h : b = c
    · subst h; simp
    · have hg := Lib.indexByte_ge l c
      have h' : (b == c) = false := by simp [h]
      rw [h']
      by_cases h2 : Lib.indexByte l c = -1
      · rw [h2] at ih ⊢
        simp at ih ⊢
        exact ⟨fun e => h e.symm, ih⟩
      · have h3 : (Lib.indexByte l c == -1) = false := by simp [h2]
        rw [h3]
        have : 0 ≤ Lib.indexByte l c := by omega
        have h4 := ih.1 this
        simp [h4]
        omega
/-- What a deed's line asks. -/
def lineP (d : De) : Prop := (d.k = 13 ∧ isPl d.a) ∨ (d.k ≠ 13 ∧ (tenP d.a ∧ tenP d.b ∧ tenP d.c) ∧ (10 : UInt8) ∉ d.t.data.toList)
/-- What came in, in its bounds. -/
def De.ints (d : De) : Prop := (-9223372036854775808 ≤ d.a ∧ d.a ≤ 9223372036854775807) ∧ (-9223372036854775808 ≤ d.b ∧ d.b ≤ 9223372036854775807) ∧ (-9223372036854775808 ≤ d.c ∧ d.c ≤ 9223372036854775807)
theorem tenC_any (x : Int) (w : World) : Calls Tryz.prog 26 (#[.int .i64 x] ++ #[]) w fun e w' => RetB (tenP x) e ∧ Below w.heap.size w w' := by
  show Calls Tryz.prog 26 #[.int .i64 x] w _
  by_cases h1 : 0 ≤ x
  · by_cases h2 : x ≤ 9999999999
    · have R : RetB (tenP x) (.returned (.bool true)) := RetB.yes ⟨h1, h2⟩
      go_enter Tryz.func26, Tryz.ntmps26
      go_wp2
      go_ret
      exact ⟨R, Below.refl _ _⟩
    · have R : RetB (tenP x) (.returned (.bool false)) := RetB.no fun h => h2 h.2
      go_enter Tryz.func26, Tryz.ntmps26
      go_wp2
      go_ret
      exact ⟨R, Below.refl _ _⟩
  · have R : RetB (tenP x) (.returned (.bool false)) := RetB.no fun h => h1 h.1
    go_enter Tryz.func26, Tryz.ntmps26
    go_wp2
    go_ret
    exact ⟨R, Below.refl _ _⟩
set_option maxHeartbeats 8000000 in
theorem implHas_any (d : De) (hi : d.ints) (w : World) :
    Calls Tryz.prog 16 #[d.val] w fun e w' => RetB (lineP d) e ∧ Below w.heap.size w w' := by
  obtain ⟨k, a, b, c, t⟩ := d
  obtain ⟨⟨ha1, ha2⟩, -, -⟩ := hi
  simp only [De.val] at *
  have b1 : Below w.heap.size w (w.alloc (.cells #[.int .i64 k, .int .i64 a, .int .i64 b, .int .i64 c, .string t] 27)) := (Below.refl _ _).alloc (Nat.le_refl _) _
  by_cases hk : k = 13
  · subst hk
    by_cases hp : isPl a
    · have R : RetB (lineP ⟨13, a, b, c, t⟩) (.returned (.bool true)) := RetB.yes (.inl ⟨rfl, hp⟩)
      have CP := dHide fun W => implOk_yes a hp W
      clear hp ha1 ha2
      go_enter Tryz.func16, Tryz.ntmps16
      go_wp2_with (go_at_call 24; refine (dUnhide CP _).mono ?_; rintro e w1 ⟨rfl, hb1⟩)
      go_ret
      exact ⟨R, belowThen b1 hb1⟩
    · have R : RetB (lineP ⟨13, a, b, c, t⟩) (.returned (.bool false)) := RetB.no fun h => by
        rcases h with ⟨-, h⟩ | ⟨h, -⟩
        · exact hp h
        · exact h rfl
      have CP := dHide fun W => implOk_no a ha1 ha2 hp W
      clear hp ha1 ha2
      go_enter Tryz.func16, Tryz.ntmps16
      go_wp2_with (go_at_call 24; refine (dUnhide CP _).mono ?_; rintro e w1 ⟨rfl, hb1⟩)
      go_ret
      exact ⟨R, belowThen b1 hb1⟩
  · clear ha1 ha2
    have X1 := Bx.new w [.int .i64 k, .int .i64 a, .int .i64 b, .int .i64 c, .string t] 27
    have CE := dHide fun (W : World) (hv : Ns W (.slice (some ⟨w.heap.size + 1, 0, none⟩) 3 3) [a, b, c]) => everyInt_any _ [a, b, c] 26 #[] tenP W (by intro args w; rfl) hv (fun W' _ z _ => tenC_any z W')
    have CC := dHide (fun W => Tryz.strings_Contains_one t 10 W)
    go_enter Tryz.func16, Tryz.ntmps16
    go_wp2_with fail
    have hs : (w.alloc (.cells #[.int .i64 k, .int .i64 a, .int .i64 b, .int .i64 c, .string t] 27)).heap.size = w.heap.size + 1 := by simp
    have N2 : Ns ((w.alloc (.cells #[.int .i64 k, .int .i64 a, .int .i64 b, .int .i64 c, .string t] 27)).alloc (.cells #[.int .i64 a, .int .i64 b, .int .i64 c] 3)) (.slice (some ⟨w.heap.size + 1, 0, none⟩) 3 3) [a, b, c] := ns_alloc _ [a, b, c] _ hs.symm (by simp)
    generalize w.alloc (.cells #[.int .i64 k, .int .i64 a, .int .i64 b, .int .i64 c, .string t] 27) = w1 at *
    have b2 : Below w1.heap.size w1 (w1.alloc (.cells #[.int .i64 a, .int .i64 b, .int .i64 c] 3)) := (Below.refl _ _).alloc (Nat.le_refl _) _
    generalize w1.alloc (.cells #[.int .i64 a, .int .i64 b, .int .i64 c] 3) = w2 at *
    refine (dUnhide CE _ N2).mono ?_
    rintro e w3 ⟨⟨q, rfl, hq⟩, b3⟩
    have B3 := belowThen b1 (belowThen b2 b3)
    have x4 := X1.below (belowThen b2 b3) 4 _ rfl
    have hq' : q = true ↔ tenP a ∧ tenP b ∧ tenP c := by rw [hq]; simp
    clear CE N2 hq b1 b2 b3 X1
    cases q
    · have R : RetB (lineP ⟨k, a, b, c, t⟩) (.returned (.bool false)) := RetB.no fun h => by
        rcases h with ⟨h, -⟩ | ⟨-, h, -⟩
        · exact hk h
        · exact absurd (hq'.2 h) (by simp)
      clear hq'
      go_wp2_with fail
      go_ret
      exact ⟨R, B3⟩
    · have ht := hq'.1 rfl
      have R : RetB (lineP ⟨k, a, b, c, t⟩) (.returned (.bool (!(decide (0 ≤ Lib.indexByte t.data.toList 10))))) := ⟨_, rfl, by
        have h := indexByte_iff t.data.toList 10
        rw [Bool.not_eq_true', decide_eq_false_iff_not, h]
        constructor
        · exact fun h => .inr ⟨hk, ht, h⟩
        · rintro (⟨h, -⟩ | ⟨-, -, h⟩)
          · exact absurd h hk
          · exact h⟩
      clear hq' ht
      generalize decide (0 ≤ Lib.indexByte t.data.toList 10) = qc at *
      go_wp2_with (go_at_call 27; refine (dUnhide CC _).mono ?_; rintro e w4 ⟨rfl, rfl⟩)
      go_ret
      exact ⟨R, B3⟩
end Go.Proofs.YtmgomacmaidmlaaGreatDoor
