/- The draw of a place's text: DrawPlaceRead answers some short text, and writes nothing that was there. -/
import Derived.Test.YthdbmnjkiijgeaaDoorDrawC
import Derived.Test.YthdbmnjkiijgeaaDoorPlaceS
namespace Go.Proofs.YthdbmnjkiijgeaaDoor
open Go.ChangeShapes Go.WideShapes Go.ChangeAt Go.RowKit
set_option linter.unusedVariables false

theorem specText_any (x : Int) (hx : I64 x) (w : World) :
    Calls Tryd.prog 20 #[.int .i64 x] w fun e w' => (∃ t : ByteArray, t.size ≤ 6 ∧ e = .returned (.string t)) ∧ Below w.heap.size w w' := by
  by_cases h : isPl x
  · refine (specText_yes x h w).mono fun e w' ⟨h1, h2⟩ => ⟨⟨_, ?_, h1⟩, h2⟩
    obtain ⟨g0, g1, g2, g3, g4⟩ := h
    exact (plTextB_size _ _ (by omega) (by omega)).2
  · refine (specText_no x hx.2 h w).mono fun e w' ⟨h1, h2⟩ => ⟨⟨_, ?_, h1⟩, by rw [← h2]; exact Below.refl _ _⟩
    decide
theorem dent_new {bk : Nat} {w : World} (hc : Cur w bk) (s : ByteArray) (hs : s.size ≤ 1000) (vs : List ByteArray) (T : TypeId) (h1 : 1 ≤ vs.length) (h2 : vs.length ≤ 1000000) (hz : ∀ v ∈ vs, v.size ≤ 1000) (cap : Nat) :
    Calls Tryd.prog 32 #[.pointer (some ⟨bk, 0, none⟩), .string s, .slice (some ⟨w.heap.size, 0, none⟩) vs.length cap] (w.alloc (.cells (vs.map Value.string).toArray T)) fun e w' => (∃ t : ByteArray, t.size ≤ 10000 ∧ e = .returned (.string t)) ∧ Cur w' bk ∧ Drawn bk w w' := by
  have hb : Below w.heap.size w (w.alloc (.cells (vs.map Value.string).toArray T)) := (Below.refl _ _).alloc (Nat.le_refl _) _
  have hlt := hc.lt
  refine (l1Dent_any bk w.heap.size 0 cap vs s hs _ h1 h2 hz (fun i h => ?_) (by omega) (hc.below hb)).mono fun e w' ⟨h, k, d⟩ => ⟨h, k, (Drawn.of_below hb).trans d⟩
  simp
def dentBits : List ByteArray := [⟨#[101]⟩, ⟨#[46]⟩, ⟨#[48]⟩, ⟨#[57]⟩, ⟨#[32]⟩, ⟨#[54, 49]⟩, ⟨#[57, 57, 57, 57, 57, 57, 57, 57, 57, 57, 57]⟩]
theorem dentBits_size : ∀ v ∈ dentBits, v.size ≤ 1000 := by decide
set_option maxHeartbeats 1000000 in
theorem drawPlaceRead_any (a : Option Addr) (len cap : Nat) (w : World) (hr : Row8 w a len) :
    Calls Tryd.prog 18 #[.slice a len cap] w fun e w' => (∃ t : ByteArray, t.size ≤ 10000 ∧ e = .returned (.string t)) ∧ Below w.heap.size w w' := by
  go_enter Tryd.func18, Tryd.ntmps18
  go_wp2_with fail
  refine (l1New_any a len cap w hr).mono ?_
  rintro e w1 ⟨bk, rfl, hbk, hc1, hb1⟩
  go_wp2_with fail
  refine (l1DrawPlace_any bk w1 hc1).mono ?_
  rintro e w2 ⟨⟨x, hx, rfl⟩, hc2, hd2⟩
  go_wp2_with fail
  refine (specText_any x hx w2).mono ?_
  rintro e w3 ⟨⟨s, hs, rfl⟩, hb3⟩
  have hc3 := hc2.below hb3
  have hd3 := hd2.trans (Drawn.of_below hb3)
  clear hc1 hc2 hd2 hb3
  go_wp2_with fail
  refine (l1Once_any bk 2 (by omega) (by omega) w3 hc3).mono ?_
  rintro e w4 ⟨⟨b, rfl⟩, hc4, hd4⟩
  have hd4' := hd3.trans hd4
  clear hd3 hd4 hc3
  cases b
  · go_wp2
    go_ret
    exact ⟨⟨s, by omega, rfl⟩, hd4'.below hb1 hb1.size hbk⟩
  · go_wp2_with fail
    refine (dent_new hc4 s (by omega) dentBits _ (by decide) (by decide) dentBits_size _).mono ?_
    rintro e w5 ⟨⟨t, ht, rfl⟩, hc5, hd5⟩
    go_wp2
    go_ret
    exact ⟨⟨t, ht, rfl⟩, (hd4'.trans hd5).below hb1 hb1.size hbk⟩
end Go.Proofs.YthdbmnjkiijgeaaDoor
