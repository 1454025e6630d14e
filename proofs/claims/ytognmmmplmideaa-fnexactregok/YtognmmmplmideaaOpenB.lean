/- Lists of ints, and records of them, among a law's arguments. -/
import Derived.Test.YtognmmmplmideaaOpenA
import Derived.Test.YtognmmmplmideaaIntsP
namespace Go.Proofs.Ytognmmmplmideaa
open Go.ChangeShapes Go.WideShapes Go.ChangeAt Go.RowKit
set_option maxRecDepth 100000
variable {H : Type} {enc : TypeId × Value → H} {W : World} {r : Reach} {b0 base : Nat} {sp : Nat → Bool} {held : Bool} {v : Value} {d : DataW H} {p : List MemPlace}

/-- Each is an int. -/
def allInt (xs : List Int) : Prop := ∀ x ∈ xs, -9223372036854775808 ≤ x ∧ x ≤ 9223372036854775807
theorem ns_of_row {w : World} {a : Option Addr} {len cap : Nat} {zs : List Int} (h : IsRow .i64 w a len cap zs) : ∃ bs : List Int, Ns w (.slice a len cap) bs ∧ allInt bs := by
  rcases h with ⟨rfl, rfl, rfl, rfl⟩ | ⟨x, rfl, h1, h2, h3, h4, h5⟩
  · exact ⟨[], ⟨by simp, none, 0, rfl, by simp, .inl rfl⟩, fun x h => by cases h⟩
  · have hm : maxLen = 9223372036854775807 := rfl
    have hl : (zs.take len).length = len := by simp; omega
    refine ⟨zs.take len, ⟨by omega, some x, cap, by rw [hl], by rw [hl]; omega, ?_⟩, fun x h => bounds_i64 (h5 x (List.mem_of_mem_take h))⟩
    rcases Nat.eq_zero_or_pos len with h0 | h0
    · exact .inl (by subst h0; simp)
    · obtain ⟨b, off, rfl, hc⟩ := ints_at h4 (by omega)
      refine .inr ⟨b, off, rfl, fun i hi => ?_⟩
      have hi' : i < zs.length := by omega
      have hcell := hc i hi'
      have hg : zs.getD i 0 = zs[i] := by simp [List.getD, hi']
      rw [hg] at hcell
      rw [hcell]
      simp
theorem ints_read {fuel : Nat} {cs : List Value} {x : DataW H × List MemPlace} (h : DataW.trod enc Try.prog W base (fun _ => true) held fuel 34 cs = some x) : ∃ sv bs, cs = [sv] ∧ Ns W sv bs ∧ allInt bs := by
  rcases open_ints Try.underlying34 Try.underlying3 (by kernel_rfl) h with ⟨hcs, _⟩ | ⟨x, l, c, zs, hcs, _, hl, hm, hz, _, hcell, hwz⟩
  · subst hcs
    exact ⟨_, [], rfl, ⟨by simp, none, 0, rfl, by simp, .inl rfl⟩, fun x h => by cases h⟩
  · subst hcs
    obtain ⟨bs, h1, h2⟩ := ns_of_row (w := W) (a := some x) (len := l) (cap := c) (zs := zs) (.inr ⟨_, rfl, hl, hm, by simpa using hz, hcell, hwz⟩)
    exact ⟨_, bs, rfl, h1, h2⟩
theorem open_Sint (hv : Value.okWide Try.prog W r b0 34 v) (h : DataW.Trod enc Try.prog W base (fun _ => true) held 34 v d p) : ∃ bs : List Int, Ns W v bs ∧ allInt bs := by
  obtain ⟨a0, len0, cap0, rfl⟩ := okWide_slice Try.underlying34 hv
  obtain ⟨fuel, hf⟩ := h
  obtain ⟨sv, bs, hcs, h1, h2⟩ := ints_read hf
  simp [Value.cells] at hcs
  subst hcs
  exact ⟨bs, h1, h2⟩
/-- A config in memory: its domains, and its copies. -/
def CfgIs (w : World) (v : Value) (c : List Int × Int) : Prop := (∃ sv, v = .agg #[sv, .int .i64 c.2] ∧ Ns w sv c.1) ∧ allInt c.1 ∧ -9223372036854775808 ≤ c.2 ∧ c.2 ≤ 9223372036854775807
theorem open_Config (hv : Value.okWide Try.prog W r b0 36 v) (h : DataW.Trod enc Try.prog W base (fun _ => true) held 36 v d p) : ∃ c : List Int × Int, CfgIs W v c := by
  obtain ⟨v0, v1, y0, y1, n, rfl, -, -, h0, h1⟩ := Go.Joins.open_agg2 Try.underlying36 (by kernel_rfl) (by kernel_rfl) hv h
  obtain ⟨sv, bs, e0, k1, k2⟩ := ints_read h0
  obtain ⟨n1, e1, -, w1⟩ := DataW.trod_int Try.underlying3 h1
  cases e0; cases e1
  exact ⟨(bs, n1), ⟨_, rfl, k1⟩, k2, (bounds_i64 w1).1, (bounds_i64 w1).2⟩
end Go.Proofs.Ytognmmmplmideaa
