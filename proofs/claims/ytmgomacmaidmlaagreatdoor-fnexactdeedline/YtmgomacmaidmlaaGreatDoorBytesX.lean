/- More on slices of bytes: where two of them lie apart; what a law's argument reads as. -/
import Derived.Test.YtmgomacmaidmlaaGreatDoorBytesP
import Derived.Test.YtmgomacmaidmlaaGreatDoorRowB
namespace Go.Proofs.YtmgomacmaidmlaaGreatDoor
open Go.ChangeShapes Go.WideShapes Go.ChangeAt Go.RowKit

theorem OwnB.base {w : World} {base : Nat} {v : Value} {bs : List UInt8} (h : OwnB w base v bs) (hne : bs ≠ []) : base ≤ blockOf v := by
  obtain ⟨-, a, cap, rfl, -, h⟩ := h
  rcases h with h | ⟨b, off, rfl, hb, -⟩
  · exact absurd h hne
  · exact hb
theorem Bs.lt {w : World} {v : Value} {bs : List UInt8} (h : Bs w v bs) (hne : bs ≠ []) : blockOf v < w.heap.size := by
  obtain ⟨-, a, cap, rfl, -, h⟩ := h
  rcases h with h | ⟨b, off, rfl, hc⟩
  · exact absurd h hne
  · have hl : 0 < bs.length := List.length_pos_iff.2 hne
    exact dCell_lt (hc 0 hl)
/-- Bytes of a later call's new memory: to mark them leaves earlier ones as they are. -/
theorem Bs.apart {w w1 w2 : World} {v u : Value} {bs cs ds : List UInt8} {base : Nat} (h : Bs w1 v bs) (hv : Bs w v cs) (hl : cs.length = bs.length) (hu : OwnB w1 base u ds) (hb : w.heap.size ≤ base) (hd : Drawn (blockOf u) w1 w2) (hds : ds.length = bs.length) : Bs w2 v bs := by
  rcases List.eq_nil_or_concat bs with h0 | h0
  · exact h.drawn hd (.inl h0)
  · have hne : bs ≠ [] := by
      obtain ⟨l, a, rfl⟩ := h0
      simp
    have hpos : 0 < bs.length := List.length_pos_iff.2 hne
    have hcs : cs ≠ [] := by rintro rfl; simp at hl; omega
    have hds' : ds ≠ [] := by rintro rfl; simp at hds; omega
    have h1 := hv.lt hcs
    have h2 := hu.base hds'
    exact h.drawn hd (.inr (by omega))
/-- To mark bytes of new memory turns nothing that was there. -/
theorem mark_below {B : Nat} {w0 w w' : World} {base : Nat} {v : Value} {bs : List UInt8} (hd : Drawn (blockOf v) w w') (h0 : bs = [] → w' = w) (ho : OwnB w base v bs) (hb : Below B w0 w) (hB : B ≤ base) (hs : B ≤ w.heap.size) : Below B w0 w' := by
  rcases List.eq_nil_or_concat bs with h | ⟨l, a, h⟩
  · rw [h0 h]; exact hb
  · have := ho.base (by rw [h]; simp)
    exact hd.below hb hs (by omega)
/-- A law's argument reads as bytes. -/
theorem bs_of_row {w : World} {a : Option Addr} {len cap : Nat} {zs : List Int} (h : IsRow .u8 w a len cap zs) : ∃ bs : List UInt8, bs.length = len ∧ Bs w (.slice a len cap) bs := by
  rcases h with ⟨rfl, rfl, rfl, rfl⟩ | ⟨x, rfl, h1, h2, h3, h4, h5⟩
  · exact ⟨[], rfl, by simp, none, 0, rfl, by simp, .inl rfl⟩
  · have hm : maxLen = 9223372036854775807 := rfl
    refine ⟨(zs.take len).map fun z => UInt8.ofNat z.toNat, by simp; omega, ?_⟩
    have hl : ((zs.take len).map fun z => UInt8.ofNat z.toNat).length = len := by simp; omega
    refine ⟨by omega, some x, cap, by rw [hl], by rw [hl]; omega, ?_⟩
    rcases Nat.eq_zero_or_pos len with h0 | h0
    · exact .inl (by subst h0; simp)
    · obtain ⟨b, off, rfl, hc⟩ := ints_at h4 (by omega)
      refine .inr ⟨b, off, rfl, fun i hi => ?_⟩
      have hi' : i < zs.length := by omega
      have hcell := hc i hi'
      have hg : zs.getD i 0 = zs[i] := by simp [List.getD, hi']
      rw [hg] at hcell
      obtain ⟨l, u⟩ := bounds_u8 (h5 zs[i] (List.getElem_mem hi'))
      rw [hcell]
      simp
      omega
end Go.Proofs.YtmgomacmaidmlaaGreatDoor
