/- A slice of bytes, cut behind; bytes as a text. -/
import Derived.Test.YthndkkjgjhgdnaaDoorGaA
import Derived.Test.YthndkkjgjhgdnaaDoorGaT
namespace Go.Proofs.YthndkkjgjhgdnaaDoor
open Go.ChangeShapes Go.WideShapes Go.ChangeAt Go.RowKit
set_option linter.unusedVariables false
set_option linter.unusedSimpArgs false
set_option maxRecDepth 100000

theorem Bs.takeS {w : World} {a : Option Addr} {n cap k : Nat} {bs : List UInt8} (h : Bs w (.slice a n cap) bs) (hk : k ≤ bs.length) : Bs w (.slice a k cap) (bs.take k) := by
  obtain ⟨h0, a', cap', he, hcap, h⟩ := h
  cases he
  have hl : (bs.take k).length = k := by simp; omega
  refine ⟨by omega, a, cap, by rw [hl], by rw [hl]; omega, ?_⟩
  rcases h with h | ⟨b, off, rfl, hc⟩
  · exact .inl (by rw [h]; simp)
  · refine .inr ⟨b, off, rfl, fun i hi => ?_⟩
    rw [hc i (by omega)]
    simp
theorem conv_bsS {w : World} {v : Value} {bs : List UInt8} (h : Bs w v bs) (hne : 0 < bs.length) : (convert 22 9 v).run Tryd.prog w = .ok (.string ⟨bs.toArray⟩) w := by
  obtain ⟨h0, a, cap, rfl, hcap, h⟩ := h
  obtain ⟨b, off, rfl, hc⟩ := or_of_lt h hne
  have := conv_cut (w := w) (b := b) (off := off) (p := 0) (n := bs.length) (cap := cap) hc (by omega)
  simpa using this
theorem Bs.row8 {w : World} {a : Option Addr} {n cap : Nat} {bs : List UInt8} (h : Bs w (.slice a n cap) bs) : Row8 w a n := by
  obtain ⟨h0, a', cap', e, -, h⟩ := h
  cases e
  refine ⟨h0, ?_⟩
  rcases h with h | ⟨b, off, rfl, hc⟩
  · exact .inl (by rw [h]; rfl)
  · exact .inr ⟨b, off, rfl, fun i hi => ⟨_, by omega, by have := bs[i].toNat_lt; omega, hc i hi⟩⟩
end Go.Proofs.YthndkkjgjhgdnaaDoor
