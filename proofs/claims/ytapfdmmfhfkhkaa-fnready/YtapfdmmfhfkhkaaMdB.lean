/- Mends drawn: l9Cover. -/
import Derived.Test.YtapfdmmfhfkhkaaMnI
import Derived.Test.YtapfdmmfhfkhkaaGaC
import Derived.Deep.RegionHeld3
import Derived.Deep.DeepCutAuto
namespace Go.Proofs.Ytapfdmmfhfkhkaa
open Go.ChangeShapes Go.WideShapes Go.ChangeAt Go.RowKit
set_option linter.unusedVariables false
set_option linter.unusedSimpArgs false
set_option maxRecDepth 100000

set_option maxHeartbeats 4000000 in
theorem l9Cover_any (v : Value) (ca : Option Addr) (cc : Nat) (ds : List Int) (cop : Int) (m : Mn) (w : World) (hd : Ns w (.slice ca ds.length cc) ds) (hv : RdMend v m w) (hl : ds.length ≤ 9) (hs : m.sealed.length ≤ 30) (hi : allInt m.sealed) :
  Calls Try.prog 82 #[.agg #[.slice ca ds.length cc, .int .i64 cop], v] w fun e w' => (∃ u zs, e = .returned u ∧ OwnN w' w.heap.size u zs ∧ zs.length ≤ 39 ∧ allInt zs) ∧ Below w.heap.size w w' := by
 have ba : ∀ (w : World) o, Below w.heap.size w (w.alloc o) := fun w o => (Below.refl _ _).alloc (Nat.le_refl _) o
 obtain ⟨sv0, ev0, wv0, rfl, hsn, -, -⟩ := id hv
 obtain ⟨sa, sc, ea, ec, wa, wz, he, hl1, hl2, hl3⟩ := formMend hv
 simp only [Value.agg.injEq, Array.mk.injEq, List.cons.injEq, and_true, true_and] at he
 obtain ⟨rfl, rfl, rfl⟩ := he
 have HD := dHide fun W (hb : Below w.heap.size w W) => hd.below hb
 have HI := dHide hi
 generalize m.bye = f0 at *
 generalize m.epoch = f1 at *
 generalize m.planned = f4 at *
 generalize m.sealed = ss at *
 generalize m.seen = es at *
 generalize m.wrote = ws at *
 have b1 := ba w (.cells #[.slice ca ds.length cc, .int .i64 cop] 26)
 have b2 := ba (w.alloc (.cells #[.slice ca ds.length cc, .int .i64 cop] 26)) (.cells #[.int .i64 f0, .int .i64 f1, .slice sa ss.length sc, .slice ea es.length ec, .bool f4, .slice wa ws.length wz] 30)
 have b3 := ba ((w.alloc (.cells #[.slice ca ds.length cc, .int .i64 cop] 26)).alloc (.cells #[.int .i64 f0, .int .i64 f1, .slice sa ss.length sc, .slice ea es.length ec, .bool f4, .slice wa ws.length wz] 30)) (.cells #[] 3)
 have B0 := belowThen (belowThen b1 b2) b3
 have X0 := dHide ((Bx.new w [.slice ca ds.length cc, .int .i64 cop] 26).below (belowThen b2 b3))
 have M0 := (Bx.new (w.alloc (.cells #[.slice ca ds.length cc, .int .i64 cop] 26)) [.int .i64 f0, .int .i64 f1, .slice sa ss.length sc, .slice ea es.length ec, .bool f4, .slice wa ws.length wz] 30).below b3
 rw [show (w.alloc (.cells #[.slice ca ds.length cc, .int .i64 cop] 26)).heap.size = w.heap.size + 1 from by simp] at M0
 have m2 := M0 2 _ rfl
 have SN := hsn.below B0
 have XB := X0
 clear hd hv hsn hi b1 b2 b3 M0 X0
 go_enter Try.func82, Try.ntmps82
 go_wp2_with (at_builtin; refine wp_cpR elemN rfl _ _ rfl _ rfl _ ss rfl SN.rw1 (by omega) ?_; intro u1 w1 A1 bl1)
 have O1 := (ApR.own elemN A1).n1
 have OS := dHide (O1.mono B0.size)
 have B1 := belowThen B0 bl1
 have X1 := dHide fun W (hb : Below w1.heap.size w1 W) => ((dUnhide XB).below bl1).below hb
 have HS : Hid (ss.length ≤ 30 ∧ allInt ss) := ⟨hs, dUnhide HI⟩
 clear A1 O1 SN m2 B0 XB bl1 HI
 go_loopw [5, 6] (fun u y wr => ∃ (k : Nat) (zs : List Int), y = .int .i64 (k : Int) ∧ k ≤ ds.length ∧ Hid (OwnN wr w.heap.size u zs) ∧ Hid (zs.length ≤ 30 + k ∧ allInt zs) ∧ Below w1.heap.size w1 wr) (fun _ y _ => ds.length - (intOf y).toNat)
 case atStart => exact ⟨0, ss, rfl, Nat.zero_le _, OS, dUnhide HS, Below.refl _ _⟩
 case round =>
  obtain ⟨k, zs, rfl, hk, hO, hZ, hb⟩ := hrel
  clear OS HS
  obtain ⟨-, za, zc, rfl, -, -⟩ := (dUnhide hO).bs
  have x0 := dUnhide X1 _ hb 0 _ rfl
  have x1 := dUnhide X1 _ hb 1 _ rfl
  by_cases hlt : (k : Int) < (ds.length : Int)
  ·have CH := dHide (specHolds_any (.slice ca ds.length cc) (.slice za zs.length zc) ds zs cop wr (dUnhide HD _ (belowThen B1 hb)) (dUnhide hO).bs (by have := (dUnhide hZ).1; omega))
   go_wp2_with fail
   refine (dUnhide CH).mono ?_
   rintro e w2 ⟨⟨b2, rfl, -⟩, bl2⟩
   have hb2 := belowThen hb bl2
   have O2 := dHide ((dUnhide hO).below bl2)
   clear CH x0 x1 hO
   cases b2 with
   | true =>
    have hz := dUnhide hZ
    have HZ := dHide (show zs.length ≤ 39 ∧ allInt zs from ⟨by omega, hz.2⟩)
    clear hZ hz
    go_wp2
    go_ret
    first | exact ⟨⟨_, rfl, zs, dUnhide O2, (dUnhide HZ).1, (dUnhide HZ).2⟩, belowThen B1 hb2⟩ | exact ⟨⟨_, zs, rfl, dUnhide O2, (dUnhide HZ).1, (dUnhide HZ).2⟩, belowThen B1 hb2⟩
   | false =>
    have CP := dHide (l4Put_all (.slice za zs.length zc) zs (k : Int) w2 (dUnhide O2).bs (by have := (dUnhide hZ).1; omega))
    go_wp2_with fail
    refine (dUnhide CP).mono ?_
    rintro e w3 ⟨⟨u3, rfl, O3⟩, bl3⟩
    have O4 := dHide (O3.mono (by have := (belowThen B1 hb2).size; omega))
    have hb3 := belowThen hb2 bl3
    have Z3 : Hid ((putL (k : Int) zs).length ≤ 30 + (k + 1) ∧ allInt (putL (k : Int) zs)) := ⟨by have := (dUnhide hZ).1; have := putL_len (k : Int) zs; omega, fun z hz => by
     rcases mem_putL.1 hz with rfl | hz
     ·exact ⟨by omega, by omega⟩
     ·exact (dUnhide hZ).2 z hz⟩
    clear CP O3 hZ O2 bl3
    go_wp2_with fail
    go_roundw
    case rel => exact ⟨k + 1, _, by go_num, by omega, O4, Z3, hb3⟩
    case measure => simp [intOf]; omega
  ·have hz := dUnhide hZ
   have HZ := dHide (show zs.length ≤ 39 ∧ allInt zs from ⟨by omega, hz.2⟩)
   clear hZ hz
   go_wp2
   go_ret
   first | exact ⟨⟨_, rfl, zs, dUnhide hO, (dUnhide HZ).1, (dUnhide HZ).2⟩, belowThen B1 hb⟩ | exact ⟨⟨_, zs, rfl, dUnhide hO, (dUnhide HZ).1, (dUnhide HZ).2⟩, belowThen B1 hb⟩
end Go.Proofs.Ytapfdmmfhfkhkaa
