/- impl's chapter 3: EntryOk, EntryPack, EntryRead, Better answer as the plain functions say, at every argument, and write nothing that was there. -/
import Derived.Test.YtcjchbapeoeaeaaImpCe
import Derived.Test.YtcjchbapeoeaeaaRdrD
import Derived.Test.YtcjchbapeoeaeaaBytesX
namespace Go.Proofs.Ytcjchbapeoeaeaa
open Go.ChangeShapes Go.WideShapes Go.ChangeAt Go.RowKit
set_option linter.unusedVariables false

set_option maxHeartbeats 2000000 in
set_option maxRecDepth 100000 in
theorem implRead_any (v : Value) (bs : List UInt8) (x : Int) (w : World) (hv : Bs w v bs) (hl : bs.length ≤ 1099511627776) (_l : -9223372036854775808 ≤ x) (_u : x ≤ 9223372036854775807) :
    Calls Try.prog 14 #[v, .int .i64 x] w fun e w' => e = .returned (readT (readZ bs x)) ∧ Below w.heap.size w w' := by
  have hb : ∀ o1 o2, Below w.heap.size w ((w.alloc o1).alloc o2) := fun o1 o2 => ((Below.refl _ _).alloc (Nat.le_refl _) o1).alloc (by simp) o2
  have hne : bs = [] ∨ blockOf v ≠ w.heap.size + 1 := by
    rcases List.eq_nil_or_concat bs with h | ⟨l, a, h⟩
    · exact .inl h
    · exact .inr (by have := hv.lt (by rw [h]; simp); omega)
  have HV := dHide fun o1 o2 => hv.below (hb o1 o2)
  have HB := dHide hb
  obtain ⟨h0, a, cap, rfl, -⟩ := hv
  clear hb
  go_enter Try.func14, Try.ntmps14
  go_wp2_with fail
  have V2 := dUnhide HV (.cells #[.int .i64 0, .int .i64 0, .bool false, .string ⟨#[]⟩] 25) (.cells #[.int .i64 x] 3)
  have B2 := dUnhide HB (.cells #[.int .i64 0, .int .i64 0, .bool false, .string ⟨#[]⟩] 25) (.cells #[.int .i64 x] 3)
  have P2 := plc_new (w.alloc (.cells #[.int .i64 0, .int .i64 0, .bool false, .string ⟨#[]⟩] 25)) x 3
  have Z1 := FourZ.fresh w (.int .i64 0) (.int .i64 0) (.bool false) (.string ⟨#[]⟩) 25
  have Z2 := Z1.kept ((Below.refl _ _).alloc (Nat.le_refl _) (.cells #[.int .i64 x] 3))
  have hs1 : (w.alloc (.cells #[.int .i64 0, .int .i64 0, .bool false, .string ⟨#[]⟩] 25)).heap.size = w.heap.size + 1 := by simp
  rw [hs1] at P2
  have hs2 : w.heap.size + 1 < ((w.alloc (.cells #[.int .i64 0, .int .i64 0, .bool false, .string ⟨#[]⟩] 25)).alloc (.cells #[.int .i64 x] 3)).heap.size := by simp
  clear HV HB hs1 Z1
  generalize (w.alloc (.cells #[.int .i64 0, .int .i64 0, .bool false, .string ⟨#[]⟩] 25)).alloc (.cells #[.int .i64 x] 3) = w2 at *
  have C := entry_any _ bs (w.heap.size + 1) x w2 V2 hl P2 hne
  unfold rdr at C
  have hrb : w.heap.size ≠ w.heap.size + 1 := by omega
  generalize hpk : w.heap.size + 1 = pk at *
  clear V2 P2
  refine C.mono ?_
  rintro e w3 ⟨m, rfl, hm, mv⟩
  have HZ3 := dHide (Z2.drawn mv.1 hrb)
  have HB3 := dHide (mv.1.below B2 B2.size (by omega))
  have HM := dHide hm
  have hs3 : pk < w3.heap.size := Nat.lt_of_lt_of_le hs2 mv.1.size
  have hs4 : w.heap.size < w3.heap.size := by omega
  clear C Z2 mv hm B2 hs2
  obtain ⟨mp, mw, mh, md⟩ := m
  cases hz : readZ bs x with
  | none =>
    have HF := dHide hz
    clear hz
    simp only [Option.isSome_none, Ent.val]
    obtain ⟨zb, ⟨k0, k1, k2, k3⟩, f0, f1, f2, f3⟩ := dUnhide HZ3
    go_wp2
    obtain ⟨e0, e1, e2, e3⟩ := ((dUnhide HZ3).set (.int .i64 0) (.int .i64 0) (.bool false) (.string ⟨#[]⟩)).kept ((Below.refl _ _).alloc (Nat.le_refl _) (.cells #[.int .i64 mp, .int .i64 mw, .bool mh, .string md] 25))
    have hbe := (below_set4 (dUnhide HB3) (Nat.le_refl w.heap.size) (.int .i64 0) (.int .i64 0) (.bool false) (.string ⟨#[]⟩)).alloc (by simp; omega) (.cells #[.int .i64 mp, .int .i64 mw, .bool mh, .string md] 25)
    clear k0 k1 k2 k3 f0 f1 f2 f3
    generalize ((((w3.setCell ⟨w.heap.size, 0, none⟩ (.int .i64 0)).setCell ⟨w.heap.size, 1, none⟩ (.int .i64 0)).setCell ⟨w.heap.size, 2, none⟩ (.bool false)).setCell ⟨w.heap.size, 3, none⟩ (.string ⟨#[]⟩)).alloc (.cells #[.int .i64 mp, .int .i64 mw, .bool mh, .string md] 25) = W at *
    refine bodyPost_ret (v := readT none) (by simp [results, Try.results14, go_sem, e0, e1, e2, e3, readT]) rfl ⟨by rw [dUnhide HF], hbe⟩
  | some r =>
    obtain ⟨m', p⟩ := r
    obtain ⟨rfl, p3⟩ := dUnhide HM m' p hz
    have HF := dHide hz
    clear hz HM
    simp only [Option.isSome_some, Ent.val]
    obtain ⟨q0, q1⟩ := p3
    obtain ⟨zb, ⟨k0, k1, k2, k3⟩, f0, f1, f2, f3⟩ := dUnhide HZ3
    go_wp2
    have ba : Below w3.heap.size w3 (w3.alloc (.cells #[.int .i64 mp, .int .i64 mw, .bool mh, .string md] 25)) := (Below.refl _ _).alloc (Nat.le_refl _) _
    have A4 := Four.new w3 (.int .i64 mp) (.int .i64 mw) (.bool mh) (.string md) 25
    have HZ4 := dHide ((dUnhide HZ3).kept ba)
    have HB4 := dHide (belowThen (dUnhide HB3) ba)
    have P4 := Plc.below ⟨q0, q1⟩ ba
    have htr : w3.heap.size ≠ w.heap.size := by omega
    clear k0 k1 k2 k3 f0 f1 f2 f3 zb HZ3 HB3 q0 q1 ba hs3 hs4
    generalize w3.alloc (.cells #[.int .i64 mp, .int .i64 mw, .bool mh, .string md] 25) = w4 at *
    generalize w3.heap.size = tb at *
    have HA4 := dHide A4
    obtain ⟨a0, a1, a2, a3⟩ := A4
    obtain ⟨q0, q1⟩ := P4
    obtain ⟨zb, ⟨k0, k1, k2, k3⟩, f0, f1, f2, f3⟩ := dUnhide HZ4
    have hpk' : pk ≠ w.heap.size := by omega
    have HK : Hid (((((w4.setCell ⟨w.heap.size, 0, none⟩ (.int .i64 mp)).setCell ⟨w.heap.size, 1, none⟩ (.int .i64 mw)).setCell ⟨w.heap.size, 2, none⟩ (.bool mh)).setCell ⟨w.heap.size, 3, none⟩ (.string md)).drew.cell? ⟨pk, 0, none⟩ = some (.int .i64 (p : Int))) :=
      set_other (set_other (set_other (set_other q0 (by omega)) (by omega)) (by omega)) (by omega)
    have HF4 : Hid (Four ((((w4.setCell ⟨w.heap.size, 0, none⟩ (.int .i64 mp)).setCell ⟨w.heap.size, 1, none⟩ (.int .i64 mw)).setCell ⟨w.heap.size, 2, none⟩ (.bool mh)).setCell ⟨w.heap.size, 3, none⟩ (.string md)).drew tb (.int .i64 mp) (.int .i64 mw) (.bool mh) (.string md)) := Four.kept (Four.far4 (dUnhide HA4) htr _ _ _ _) (Below.refl _ _).drew
    go_region_held3 (fun W => W.cell? ⟨tb, 0, none⟩ = some (.int .i64 mp) ∧ W.cell? ⟨tb, 1, none⟩ = some (.int .i64 mw) ∧ W.cell? ⟨tb, 2, none⟩ = some (.bool mh) ∧ W.cell? ⟨tb, 3, none⟩ = some (.string md) ∧ W.cell? ⟨pk, 0, none⟩ = some (.int .i64 (p : Int))) (first | exact ⟨(dUnhide HF4).1, (dUnhide HF4).2.1, (dUnhide HF4).2.2.1, (dUnhide HF4).2.2.2, dUnhide HK⟩ | go_keep)
      (fail)
    obtain ⟨e0, e1, e2, e3⟩ := (dUnhide HZ4).set (.int .i64 mp) (.int .i64 mw) (.bool mh) (.string md)
    have hbe := (below_set4 (dUnhide HB4) (Nat.le_refl w.heap.size) (.int .i64 mp) (.int .i64 mw) (.bool mh) (.string md)).drew
    clear k0 k1 k2 k3 f0 f1 f2 f3 HK HF4
    generalize (((w4.setCell ⟨w.heap.size, 0, none⟩ (.int .i64 mp)).setCell ⟨w.heap.size, 1, none⟩ (.int .i64 mw)).setCell ⟨w.heap.size, 2, none⟩ (.bool mh)).setCell ⟨w.heap.size, 3, none⟩ (.string md) = W at *
    go_wp2
    refine bodyPost_ret (v := readT (some (⟨mp, mw, mh, md⟩, p))) (by simp [results, Try.results14, go_sem, e0, e1, e2, e3, readT, Ent.val]) rfl ⟨by rw [dUnhide HF], hbe⟩
end Go.Proofs.Ytcjchbapeoeaeaa
