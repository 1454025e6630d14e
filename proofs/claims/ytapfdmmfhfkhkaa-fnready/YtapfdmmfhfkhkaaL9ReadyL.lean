/- DrawMendNew, and the walk of the law FnReady (printed by tools/mkl9r.py). -/
import Derived.Test.YtapfdmmfhfkhkaaMdG
import Derived.Test.YtapfdmmfhfkhkaaQ9N
import Derived.Test.YtapfdmmfhfkhkaaQ9R
import Derived.Test.YtapfdmmfhfkhkaaBigB
import Derived.Test.YtapfdmmfhfkhkaaGaA
import Derived.Deep.RegionHeld3
import Derived.Deep.DeepCutAuto
namespace Go.Proofs.Ytapfdmmfhfkhkaa
open Go.ChangeShapes Go.WideShapes Go.ChangeAt Go.RowKit
set_option linter.unusedVariables false
set_option linter.unusedSimpArgs false
set_option maxRecDepth 100000

theorem drawMendNew_any (a : Option Addr) (len cap : Nat) (w : World) (hr : Row8 w a len) :
  Calls Try.prog 13 #[.slice a len cap] w fun e w' => (∃ x y : Int, e = .returned (.tuple #[.int .i64 x, .int .i64 y])) ∧ Below w.heap.size w w' := by
 have CN := dHide (l1New_any a len cap w hr)
 clear hr
 go_enter Try.func13, Try.ntmps13
 go_wp2_with fail
 refine (dUnhide CN).mono ?_
 rintro e w1 ⟨bk, rfl, hbk, K1, b1⟩
 have C1 := dHide (l1Below_any bk 40 (by omega) (by omega) w1 K1)
 clear CN
 go_wp2_with fail
 refine (dUnhide C1).mono ?_
 rintro e w2 ⟨⟨x, hx, rfl⟩, K2, D2⟩
 have C2 := dHide (l1Below_any bk 40 (by omega) (by omega) w2 K2)
 have b2 := D2.below b1 b1.size hbk
 clear C1 K2 D2 b1
 go_wp2_with fail
 refine (dUnhide C2).mono ?_
 rintro e w3 ⟨⟨y, hy, rfl⟩, K3, D3⟩
 have b3 := D3.below b2 b2.size hbk
 clear C2 K3 D3 b2
 go_wp2_with fail
 exact bodyPost_ret (v := .tuple #[.int .i64 ((x : Int) - 2), .int .i64 (y : Int)]) (by simp [results, Try.results13, go_sem]) rfl ⟨⟨_, _, rfl⟩, b3⟩
set_option maxHeartbeats 16000000 in
theorem walkFnReady (a0 : Option Addr) (len0 cap0 : Nat) (z0 : List Int) (w : World) (w0 : IsRow .u8 w a0 len0 cap0 z0) :
  Calls Try.prog 3 #[.slice a0 len0 cap0] w fun e w' => e = .returned (.bool true) ∧ Below w.heap.size w w' := by
 have hr := row8_of w0
 have hlen := hr.1
 clear w0
 by_cases hbig : 1048576 < len0
 ·have CB := dHide (big_yes a0 len0 cap0 hbig hlen)
  go_enter Try.func3, Try.ntmps3
  go_wp2_with fail
  refine (dUnhide CB _).mono ?_
  rintro e w1 ⟨rfl, rfl⟩
  go_wp2
  go_ret
  exact ⟨rfl, Below.refl _ _⟩
 have CB := dHide (big_no a0 len0 cap0 hbig)
 have CD := dHide (drawMendReady_any a0 len0 cap0 w hr)
 have HR := dHide fun W (hb : Below w.heap.size w W) => drawMendNew_any a0 len0 cap0 W (hr.below hb)
 have ba : ∀ (w : World) o, Below w.heap.size w (w.alloc o) := fun w o => (Below.refl _ _).alloc (Nat.le_refl _) o
 clear hbig hr
 go_enter Try.func3, Try.ntmps3
 go_wp2_with fail
 refine (dUnhide CB _).mono ?_
 rintro e w1 ⟨rfl, rfl⟩
 clear CB
 go_wp2_with fail
 refine (dUnhide CD).mono ?_
 rintro e w2 ⟨m, q, ca, cc, ds, cop, rfl, N2, R2, fit, ⟨hd1, hd2, hd3, hd4⟩, b2⟩
 obtain ⟨sa, sc, ea, ec, wa, wc⟩ := q
 simp only at R2
 clear CD
 have okm : okMend m := fit.1
 have hsm := fit.siz
 have hwb : m.wrote.length ≤ 62 := fit.2.2.2.1
 have okc : okConfig (ds, cop) := ⟨hd2, by simp only; omega, by simp only; omega⟩
 have hsc : sizConfig (ds, cop) ≤ 1048576 := by unfold sizConfig; simp only; omega
 have HC := dHide fun W (hb : Below w2.heap.size w2 W) => (show RdConfig (.agg #[.slice ca ds.length cc, .int .i64 cop]) (ds, cop) W from ⟨_, rfl, N2.below hb⟩)
 have HM := dHide fun W (hb : Below w2.heap.size w2 W) => R2.below hb
 have C1 := dHide fun W (hb : Below w2.heap.size w2 W) => implReady_any (.agg #[.slice ca ds.length cc, .int .i64 cop]) (.agg #[.int .i64 m.bye, .int .i64 m.epoch, .slice sa m.sealed.length sc, .slice ea m.seen.length ec, .bool m.planned, .slice wa m.wrote.length wc]) (ds, cop) m W (dUnhide HC W hb) (dUnhide HM W hb) okc okm hsc hsm
 have C2 := dHide fun W (hb : Below w2.heap.size w2 W) => specReady_any (.agg #[.slice ca ds.length cc, .int .i64 cop]) (.agg #[.int .i64 m.bye, .int .i64 m.epoch, .slice sa m.sealed.length sc, .slice ea m.seen.length ec, .bool m.planned, .slice wa m.wrote.length wc]) (ds, cop) m W (dUnhide HC W hb) (dUnhide HM W hb) okm.2.2.2.1 hsm
 have C3 := dHide fun W (hb : Below w2.heap.size w2 W) => implMendOk_any (.agg #[.slice ca ds.length cc, .int .i64 cop]) (.agg #[.int .i64 m.bye, .int .i64 m.epoch, .slice sa m.sealed.length sc, .slice ea m.seen.length ec, .bool m.planned, .slice wa m.wrote.length wc]) (ds, cop) m W (dUnhide HC W hb) (dUnhide HM W hb) okc okm hsc hsm
 have C4 := dHide fun W (hb : Below w2.heap.size w2 W) => specMendOk_any (.agg #[.slice ca ds.length cc, .int .i64 cop]) (.agg #[.int .i64 m.bye, .int .i64 m.epoch, .slice sa m.sealed.length sc, .slice ea m.seen.length ec, .bool m.planned, .slice wa m.wrote.length wc]) (ds, cop) m W (dUnhide HC W hb) (dUnhide HM W hb) okm.2.2.2.1
 simp only at C1 C2 C3 C4
 obtain ⟨sv', ev', wv', ew, -, -, rs, er, hrw, hrn⟩ := R2
 simp only [Value.agg.injEq, Array.mk.injEq, List.cons.injEq, and_true, true_and] at ew
 obtain ⟨-, -, rfl⟩ := ew
 have hln : rs.length = m.wrote.length := by rw [← er, List.length_map]
 have HRW := dHide fun W (hb : Below w2.heap.size w2 W) => hrw.below hb
 have C5 : Hid (∀ W, Below w2.heap.size w2 W → ∀ k (hk : k < rs.length), Calls Try.prog 12 #[.agg #[.slice ca ds.length cc, .int .i64 cop], .slice rs[k].a rs[k].m.length rs[k].c] W fun e w' => RetB (holdsP ds cop rs[k].m) e ∧ Below W.heap.size W w') := fun W hb k hk => by
  have hmem : rs[k].m ∈ m.wrote := by rw [← er]; exact List.mem_map.2 ⟨_, List.getElem_mem hk, rfl⟩
  have h21 := fit.2.2.2.2 _ hmem
  exact implHolds_any _ (Sv idL rs[k]) ds rs[k].m cop W (N2.below hb) ((hrn _ (List.getElem_mem hk)).below hb) hd2 (okm.2.2.2.2 _ hmem) (by omega) (by omega) (by omega) (by omega)
 have PR : Hid (rdyP ds cop m ↔ mnP ds cop m ∧ m.planned = true ∧ ∀ i (h : i < rs.length), holdsP ds cop rs[i].m) := by
  unfold rdyP Hid
  rw [← er]
  constructor
  ·rintro ⟨h1, h2, h3⟩
   exact ⟨h1, h2, fun i hi => h3 _ (List.mem_map.2 ⟨_, List.getElem_mem hi, rfl⟩)⟩
  ·rintro ⟨h1, h2, h3⟩
   refine ⟨h1, h2, fun l hl => ?_⟩
   obtain ⟨p, hp, rfl⟩ := List.mem_map.1 hl
   obtain ⟨i, hi, rfl⟩ := List.getElem_of_mem hp
   exact h3 i hi
 generalize rdyP ds cop m = PRd at *
 generalize mnP ds cop m = PMn at *
 have bX := belowThen (ba w2 (.cells #[.slice ca ds.length cc, .int .i64 cop] 26)) (ba _ (.cells #[.int .i64 m.bye, .int .i64 m.epoch, .slice sa m.sealed.length sc, .slice ea m.seen.length ec, .bool m.planned, .slice wa m.wrote.length wc] 30))
 have PS : Hid (∀ W, Below ((w2.alloc (.cells #[.slice ca ds.length cc, .int .i64 cop] 26)).alloc (.cells #[.int .i64 m.bye, .int .i64 m.epoch, .slice sa m.sealed.length sc, .slice ea m.seen.length ec, .bool m.planned, .slice wa m.wrote.length wc] 30)).heap.size ((w2.alloc (.cells #[.slice ca ds.length cc, .int .i64 cop] 26)).alloc (.cells #[.int .i64 m.bye, .int .i64 m.epoch, .slice sa m.sealed.length sc, .slice ea m.seen.length ec, .bool m.planned, .slice wa m.wrote.length wc] 30)) W → (W.cell? ⟨w2.heap.size, 0, none⟩ = some (.slice ca ds.length cc) ∧ W.cell? ⟨w2.heap.size, 1, none⟩ = some (.int .i64 cop)) ∧ W.cell? ⟨w2.heap.size + 1, 0, none⟩ = some (.int .i64 m.bye) ∧ W.cell? ⟨w2.heap.size + 1, 1, none⟩ = some (.int .i64 m.epoch) ∧ W.cell? ⟨w2.heap.size + 1, 2, none⟩ = some (.slice sa m.sealed.length sc) ∧ W.cell? ⟨w2.heap.size + 1, 3, none⟩ = some (.slice ea m.seen.length ec) ∧ W.cell? ⟨w2.heap.size + 1, 4, none⟩ = some (.bool m.planned) ∧ W.cell? ⟨w2.heap.size + 1, 5, none⟩ = some (.slice wa m.wrote.length wc)) := fun W hW => by
  have x := ((Bx.new w2 [.slice ca ds.length cc, .int .i64 cop] 26).below (ba _ (.cells #[.int .i64 m.bye, .int .i64 m.epoch, .slice sa m.sealed.length sc, .slice ea m.seen.length ec, .bool m.planned, .slice wa m.wrote.length wc] 30))).below hW
  have y := Bx.new (w2.alloc (.cells #[.slice ca ds.length cc, .int .i64 cop] 26)) [.int .i64 m.bye, .int .i64 m.epoch, .slice sa m.sealed.length sc, .slice ea m.seen.length ec, .bool m.planned, .slice wa m.wrote.length wc] 30
  rw [show (w2.alloc (.cells #[.slice ca ds.length cc, .int .i64 cop] 26)).heap.size = w2.heap.size + 1 from by simp] at y
  replace y := y.below hW
  exact ⟨⟨x 0 _ rfl, x 1 _ rfl⟩, y 0 _ rfl, y 1 _ rfl, y 2 _ rfl, y 3 _ rfl, y 4 _ rfl, y 5 _ rfl⟩
 clear HC HM N2 hrw hrn fit er okm hsm okc hsc hd1 hd2 hd3 hd4
 go_wp2_with fail
 generalize ((w2.alloc (.cells #[.slice ca ds.length cc, .int .i64 cop] 26)).alloc (.cells #[.int .i64 m.bye, .int .i64 m.epoch, .slice sa m.sealed.length sc, .slice ea m.seen.length ec, .bool m.planned, .slice wa m.wrote.length wc] 30)) = w3 at *
 refine (dUnhide C1 _ bX).mono ?_
 rintro e w4 ⟨⟨br, rfl, h4⟩, b4⟩
 have B4 := belowThen bX b4
 have bdr : Below w4.heap.size w4 w4.drew := (Below.refl _ _).drew
 have PS4 := dHide fun W (hW : Below w4.heap.size w4 W) => dUnhide PS W (belowThen b4 hW)
 have HBr := dHide h4
 clear C1 h4
 go_upto_region 5 with fail
 go_wp2_with fail
 go_region_held3 (fun W => (W.cell? ⟨w2.heap.size, 0, none⟩ = some (.slice ca ds.length cc) ∧ W.cell? ⟨w2.heap.size, 1, none⟩ = some (.int .i64 cop)) ∧ W.cell? ⟨w2.heap.size + 1, 0, none⟩ = some (.int .i64 m.bye) ∧ W.cell? ⟨w2.heap.size + 1, 1, none⟩ = some (.int .i64 m.epoch) ∧ W.cell? ⟨w2.heap.size + 1, 2, none⟩ = some (.slice sa m.sealed.length sc) ∧ W.cell? ⟨w2.heap.size + 1, 3, none⟩ = some (.slice ea m.seen.length ec) ∧ W.cell? ⟨w2.heap.size + 1, 4, none⟩ = some (.bool m.planned) ∧ W.cell? ⟨w2.heap.size + 1, 5, none⟩ = some (.slice wa m.wrote.length wc)) (first | exact dUnhide PS4 _ c7 | exact dUnhide PS4 _ c6 | exact dUnhide PS4 _ c5 | exact dUnhide PS4 _ bdr | go_keep)
  (first
   | (go_at_call 9; refine (dUnhide C2 _ (belowThen B4 bdr)).mono ?_; rintro e w5 ⟨⟨bs, rfl, h5⟩, b5⟩; have ebs : br = bs := (by have := h5.trans (dUnhide HBr).symm; cases bs <;> cases br <;> simp_all); subst ebs; have c5 := belowThen bdr b5; have hne0 : (br != br) = false := (by simp); clear h5 b5)
   | (go_at_call 10; refine (dUnhide C3 _ (belowThen B4 c5)).mono ?_; rintro e w6 ⟨⟨bm, rfl, h6⟩, b6⟩; have HB6 := dHide h6; have c6 := belowThen c5 b6; clear h6 b6)
   | (go_at_call 11; refine (dUnhide C4 _ (belowThen B4 c6)).mono ?_; rintro e w7 ⟨⟨bm2, rfl, h7⟩, b7⟩; have ebm : bm = bm2 := (by have := h7.trans (dUnhide HB6).symm; cases bm2 <;> cases bm <;> simp_all); subst ebm; have c7 := belowThen c6 b7; have hne1 : (bm != bm) = false := (by simp); clear h7 b7))
 all_goals
  have C48 := dHide (dUnhide C4 w7 (belowThen B4 c7))
  have PS7 := dHide fun W (hW : Below w7.heap.size w7 W) => dUnhide PS4 W (belowThen c7 hW)
  have B7 := belowThen B4 c7
  have HLN := dHide hln
  obtain ⟨⟨q0, q1⟩, q2, q3, q4, q5, q6, q7⟩ := dUnhide PS7 w7 (Below.refl _ _)
  have b2' := b2
  clear C2 C3 C4 HB6 PS4 PS c5 c6 c7 hln hne0 hne1
  go_wp2_with fail
  refine (dUnhide C48).mono ?_
  rintro e w8 ⟨⟨b8, rfl, h8⟩, bl8⟩
  have PS8 := dHide fun W (hW : Below w8.heap.size w8 W) => dUnhide PS7 W (belowThen bl8 hW)
  have B8 := belowThen B7 bl8
  clear C48 PS7 q0 q1 q2 q3 q4 q5 q6 q7
  obtain ⟨⟨q0, q1⟩, q2, q3, q4, q5, q6, q7⟩ := dUnhide PS8 w8 (Below.refl _ _)
  have J0 : Hid (b8 = false → (false = true ↔ (PMn ∧ m.planned = true ∧ ∀ i (h : i < rs.length), i < 0 → holdsP ds cop rs[i].m))) := fun e => by
   constructor
   ·intro h; cases h
   ·intro h
    have := h8.2 h.1
    rw [e] at this
    exact this
  have J1 : Hid (b8 = true → (m.planned = true ↔ (PMn ∧ m.planned = true ∧ ∀ i (h : i < rs.length), i < 0 → holdsP ds cop rs[i].m))) := fun e => by
   constructor
   ·intro h
    exact ⟨h8.1 e, h, fun i hi h' => by omega⟩
   ·intro h
    exact h.2.1
  clear h8
  cases b8
  case false =>
   have I0 := dHide (dUnhide J0 rfl)
   clear J0 J1
   go_wp2
   go_loopw [6, 7] (fun e x wr => ∃ (k : Nat) (bv : Bool), e = .bool bv ∧ x = .int .i64 (k : Int) ∧ k ≤ m.wrote.length ∧ Hid (bv = true ↔ (PMn ∧ m.planned = true ∧ ∀ i (h : i < rs.length), i < k → holdsP ds cop rs[i].m)) ∧ Below w8.heap.size w8 wr) (fun _ x _ => m.wrote.length - (intOf x).toNat)
   case atStart => exact ⟨0, false, rfl, rfl, Nat.zero_le _, I0, Below.refl _ _⟩
   case round =>
    obtain ⟨k, bv, rfl, rfl, hk, hE, hb⟩ := hrel
    have q8 := dUnhide PS8 wr hb
    obtain ⟨⟨q0, q1⟩, q2, q3, q4, q5, q6, q7⟩ := q8
    by_cases hlt : (k : Int) < (m.wrote.length : Int)
    ·have hkl : k < rs.length := by have := dUnhide HLN; omega
     obtain ⟨b, off, rfl, hce⟩ := (dUnhide HRW wr (belowThen B8 hb)).ls hkl
     have EE := hce k hkl
     have CH := dHide fun W (hW : Below wr.heap.size wr W) => dUnhide C5 W (belowThen B8 (belowThen hb hW)) k hkl
     have GT : Hid (∀ b9 : Bool, (b9 = true ↔ holdsP ds cop rs[k].m) → bv = true → (b9 = true ↔ (PMn ∧ m.planned = true ∧ ∀ i (h : i < rs.length), i < k + 1 → holdsP ds cop rs[i].m))) := fun b9 h9 hbv => by
      have e0 := (dUnhide hE).1 hbv
      rw [h9]
      constructor
      ·intro h
       refine ⟨e0.1, e0.2.1, fun i hi hik => ?_⟩
       rcases Nat.lt_or_ge i k with h1 | h1
       ·exact e0.2.2 i hi h1
       ·obtain rfl : i = k := by omega
        exact h
      ·intro h
       exact h.2.2 k hkl (by omega)
     have GF : Hid (bv = false → (false = true ↔ (PMn ∧ m.planned = true ∧ ∀ i (h : i < rs.length), i < k + 1 → holdsP ds cop rs[i].m))) := fun hbv => by
      constructor
      ·intro h; cases h
      ·intro h
       have := (dUnhide hE).2 ⟨h.1, h.2.1, fun i hi hik => h.2.2 i hi (by omega)⟩
       rw [hbv] at this
       cases this
     generalize rs[k] = y at *
     obtain ⟨ya, yc, yn⟩ := y
     simp only at EE CH GT
     have PK : Hid (∀ W, Below wr.heap.size wr W → (W.cell? ⟨w2.heap.size, 0, none⟩ = some (.slice ca ds.length cc) ∧ W.cell? ⟨w2.heap.size, 1, none⟩ = some (.int .i64 cop)) ∧ W.cell? ⟨w2.heap.size + 1, 5, none⟩ = some (.slice (some ⟨b, off, none⟩) m.wrote.length wc) ∧ W.cell? ⟨b, off + k, none⟩ = some (.slice ya yn.length yc)) := fun W hW => by
      have q8 := dUnhide PS8 W (belowThen hb hW)
      exact ⟨q8.1, q8.2.2.2.2.2.2, (hW.cell (p := ⟨b, off + k, none⟩) (dCell_lt EE)).trans EE⟩
     have bd : Below wr.heap.size wr wr.drew := (Below.refl _ _).drew
     have hkn : (k : Int) < (m.wrote.length : Int) := hlt
     clear hce EE hE
     cases bv
     ·replace GF := dHide (dUnhide GF rfl)
      clear GT CH
      go_upto_region 11 with fail
      go_wp2_with fail
      have hwd := bd
      refine wp_region_noPanic ?_
      refine wp_region_held_drew (S := fun W => (W.cell? ⟨w2.heap.size, 0, none⟩ = some (.slice ca ds.length cc) ∧ W.cell? ⟨w2.heap.size, 1, none⟩ = some (.int .i64 cop)) ∧ W.cell? ⟨w2.heap.size + 1, 5, none⟩ = some (.slice (some ⟨b, off, none⟩) m.wrote.length wc) ∧ W.cell? ⟨b, off + k, none⟩ = some (.slice ya yn.length yc)) (by kernel_rfl) (by first | exact dUnhide PK _ hwd | exact dUnhide PK _ bd) (fun hHeld => ?_)
      clear bd
      generalize wr.drew = wd at *
      refine wpAnyH_take (i := 0) (oi := ⟨some 49, .move (.tmp 6), 4, "laws.go:824", #[], none⟩) (v := ?_) rfl (by kernel_rfl) (by kernel_rfl) (by kernel_rfl) (fun _ _ _ h => h) (Or.inl ⟨by rfl, ?_⟩) (by assumption) ?_
      rotate_left 1
      ·intro w hSw
       (try dsimp only at hSw)
       first | (go_simp; done) | (go_simp; with_reducible rfl)
      try simp only [Act.put, sA, sB, sC]
      refine wpAnyH_take (i := 1) (oi := ⟨some 50, .move (.tmp 49), 4, "laws.go:824", #[⟨0, .data⟩], none⟩) (v := ?_) rfl (by kernel_rfl) (by kernel_rfl) (by kernel_rfl) (fun _ _ _ h => h) (Or.inl ⟨by rfl, ?_⟩) (by assumption) ?_
      rotate_left 1
      ·intro w hSw
       (try dsimp only at hSw)
       first | (go_simp; done) | (go_simp; with_reducible rfl)
      try simp only [Act.put, sA, sB, sC]
      refine wpAnyH_take (i := 2) (oi := ⟨some 51, .load 26 (.tmp 3), 26, "laws.go:824", #[⟨1, .guard⟩], some (1, true)⟩) (v := undef) rfl (by kernel_rfl) (by kernel_rfl) (by kernel_rfl) (fun _ _ _ h => h) (Or.inr ⟨by rfl, rfl⟩) (by assumption) ?_
      try simp only [Act.put, sA, sB, sC]
      refine wpAnyH_take (i := 3) (oi := ⟨some 52, .fieldAddr 30 (.tmp 4) 5, 0, "laws.go:824", #[⟨1, .guard⟩], some (1, true)⟩) (v := undef) rfl (by kernel_rfl) (by kernel_rfl) (by kernel_rfl) (fun _ _ _ h => h) (Or.inr ⟨by rfl, rfl⟩) (by assumption) ?_
      try simp only [Act.put, sA, sB, sC]
      refine wpAnyH_take (i := 4) (oi := ⟨some 53, .load 28 (.tmp 52), 28, "laws.go:824", #[⟨3, .data⟩, ⟨1, .guard⟩], some (1, true)⟩) (v := undef) rfl (by kernel_rfl) (by kernel_rfl) (by kernel_rfl) (fun _ _ _ h => h) (Or.inr ⟨by rfl, rfl⟩) (by assumption) ?_
      try simp only [Act.put, sA, sB, sC]
      refine wpAnyH_take (i := 5) (oi := ⟨some 54, .move (.tmp 7), 3, "laws.go:824", #[⟨1, .guard⟩], some (1, true)⟩) (v := undef) rfl (by kernel_rfl) (by kernel_rfl) (by kernel_rfl) (fun _ _ _ h => h) (Or.inr ⟨by rfl, rfl⟩) (by assumption) ?_
      try simp only [Act.put, sA, sB, sC]
      refine wpAnyH_take (i := 6) (oi := ⟨some 55, .indexAddr 28 (.tmp 53) (.tmp 54), 0, "laws.go:824", #[⟨4, .data⟩, ⟨5, .data⟩, ⟨1, .guard⟩], some (1, true)⟩) (v := undef) rfl (by kernel_rfl) (by kernel_rfl) (by kernel_rfl) (fun _ _ _ h => h) (Or.inr ⟨by rfl, rfl⟩) (by assumption) ?_
      try simp only [Act.put, sA, sB, sC]
      refine wpAnyH_take (i := 7) (oi := ⟨some 56, .load 24 (.tmp 55), 24, "laws.go:824", #[⟨6, .data⟩, ⟨1, .guard⟩], some (1, true)⟩) (v := undef) rfl (by kernel_rfl) (by kernel_rfl) (by kernel_rfl) (fun _ _ _ h => h) (Or.inr ⟨by rfl, rfl⟩) (by assumption) ?_
      try simp only [Act.put, sA, sB, sC]
      refine wpAnyH_take (i := 8) (oi := ⟨some 57, .call { callee := .value (.func 12), args := #[.tmp 51, .tmp 56], argTypes := #[26, 24] }, 4, "laws.go:824", #[⟨2, .data⟩, ⟨7, .data⟩, ⟨1, .chain⟩, ⟨1, .guard⟩], some (1, true)⟩) (v := undef) rfl (by kernel_rfl) (by kernel_rfl) (by kernel_rfl) (fun _ _ _ h => h) (Or.inr ⟨by rfl, rfl⟩) (by assumption) ?_
      try simp only [Act.put, sA, sB, sC]
      refine wpAnyH_take (i := 9) (oi := ⟨some 58, .pick (.tmp 50) (.tmp 57) (.const (.bool false)), 4, "laws.go:824", #[⟨1, .data⟩, ⟨8, .data⟩], none⟩) (v := ?_) rfl (by kernel_rfl) (by kernel_rfl) (by kernel_rfl) (fun _ _ _ h => h) (Or.inl ⟨by rfl, ?_⟩) (by assumption) ?_
      rotate_left 1
      ·intro w hSw
       (try dsimp only at hSw)
       first | (go_simp; done) | (go_simp; with_reducible rfl)
      try simp only [Act.put, sA, sB, sC]
      refine wpAnyH_take (i := 10) (oi := ⟨some 6, .assign (.tmp 58), 4, "laws.go:824", #[⟨9, .data⟩, ⟨8, .chain⟩, ⟨0, .phase⟩, ⟨1, .phase⟩, ⟨2, .phase⟩, ⟨3, .phase⟩, ⟨4, .phase⟩, ⟨5, .phase⟩, ⟨6, .phase⟩, ⟨7, .phase⟩, ⟨8, .phase⟩, ⟨9, .phase⟩], none⟩) (v := ?_) rfl (by kernel_rfl) (by kernel_rfl) (by kernel_rfl) (fun _ _ _ h => h) (Or.inl ⟨by rfl, ?_⟩) (by assumption) ?_
      rotate_left 1
      ·intro w hSw
       (try dsimp only at hSw)
       first | (go_simp; done) | (go_simp; with_reducible rfl)
      try simp only [Act.put, sA, sB, sC]
      refine wpAnyH_done (by kernel_rfl) ?_ _
      refine NoPanic.normal ?_
      have hw2 := belowThen hb hwd
      go_wp2
      go_roundw
      case rel => exact ⟨k + 1, false, rfl, by go_num, by omega, GF, hw2⟩
      case measure => simp [intOf]; omega
     ·replace GT := dHide fun b9 h9 => dUnhide GT b9 h9 rfl
      clear GF
      go_upto_region 11 with fail
      go_wp2_with fail
      have hwd := bd
      refine wp_region_noPanic ?_
      refine wp_region_held_drew (S := fun W => (W.cell? ⟨w2.heap.size, 0, none⟩ = some (.slice ca ds.length cc) ∧ W.cell? ⟨w2.heap.size, 1, none⟩ = some (.int .i64 cop)) ∧ W.cell? ⟨w2.heap.size + 1, 5, none⟩ = some (.slice (some ⟨b, off, none⟩) m.wrote.length wc) ∧ W.cell? ⟨b, off + k, none⟩ = some (.slice ya yn.length yc)) (by kernel_rfl) (by first | exact dUnhide PK _ hwd | exact dUnhide PK _ bd) (fun hHeld => ?_)
      clear bd
      generalize wr.drew = wd at *
      refine wpAnyH_take (i := 0) (oi := ⟨some 49, .move (.tmp 6), 4, "laws.go:824", #[], none⟩) (v := ?_) rfl (by kernel_rfl) (by kernel_rfl) (by kernel_rfl) (fun _ _ _ h => h) (Or.inl ⟨by rfl, ?_⟩) (by assumption) ?_
      rotate_left 1
      ·intro w hSw
       (try dsimp only at hSw)
       first | (go_simp; done) | (go_simp; with_reducible rfl)
      try simp only [Act.put, sA, sB, sC]
      refine wpAnyH_take (i := 1) (oi := ⟨some 50, .move (.tmp 49), 4, "laws.go:824", #[⟨0, .data⟩], none⟩) (v := ?_) rfl (by kernel_rfl) (by kernel_rfl) (by kernel_rfl) (fun _ _ _ h => h) (Or.inl ⟨by rfl, ?_⟩) (by assumption) ?_
      rotate_left 1
      ·intro w hSw
       (try dsimp only at hSw)
       first | (go_simp; done) | (go_simp; with_reducible rfl)
      try simp only [Act.put, sA, sB, sC]
      refine wpAnyH_take (i := 2) (oi := ⟨some 51, .load 26 (.tmp 3), 26, "laws.go:824", #[⟨1, .guard⟩], some (1, true)⟩) (v := ?_) rfl (by kernel_rfl) (by kernel_rfl) (by kernel_rfl) (fun _ _ _ h => h) (Or.inl ⟨by rfl, ?_⟩) (by assumption) ?_
      rotate_left 1
      ·intro w hSw
       (try dsimp only at hSw)
       first | (go_simp; done) | (go_simp; with_reducible rfl)
      try simp only [Act.put, sA, sB, sC]
      refine wpAnyH_take (i := 3) (oi := ⟨some 52, .fieldAddr 30 (.tmp 4) 5, 0, "laws.go:824", #[⟨1, .guard⟩], some (1, true)⟩) (v := ?_) rfl (by kernel_rfl) (by kernel_rfl) (by kernel_rfl) (fun _ _ _ h => h) (Or.inl ⟨by rfl, ?_⟩) (by assumption) ?_
      rotate_left 1
      ·intro w hSw
       (try dsimp only at hSw)
       first | (go_simp; done) | (go_simp; with_reducible rfl)
      try simp only [Act.put, sA, sB, sC]
      refine wpAnyH_take (i := 4) (oi := ⟨some 53, .load 28 (.tmp 52), 28, "laws.go:824", #[⟨3, .data⟩, ⟨1, .guard⟩], some (1, true)⟩) (v := ?_) rfl (by kernel_rfl) (by kernel_rfl) (by kernel_rfl) (fun _ _ _ h => h) (Or.inl ⟨by rfl, ?_⟩) (by assumption) ?_
      rotate_left 1
      ·intro w hSw
       (try dsimp only at hSw)
       first | (go_simp; done) | (go_simp; with_reducible rfl)
      try simp only [Act.put, sA, sB, sC]
      refine wpAnyH_take (i := 5) (oi := ⟨some 54, .move (.tmp 7), 3, "laws.go:824", #[⟨1, .guard⟩], some (1, true)⟩) (v := ?_) rfl (by kernel_rfl) (by kernel_rfl) (by kernel_rfl) (fun _ _ _ h => h) (Or.inl ⟨by rfl, ?_⟩) (by assumption) ?_
      rotate_left 1
      ·intro w hSw
       (try dsimp only at hSw)
       first | (go_simp; done) | (go_simp; with_reducible rfl)
      try simp only [Act.put, sA, sB, sC]
      refine wpAnyH_take (i := 6) (oi := ⟨some 55, .indexAddr 28 (.tmp 53) (.tmp 54), 0, "laws.go:824", #[⟨4, .data⟩, ⟨5, .data⟩, ⟨1, .guard⟩], some (1, true)⟩) (v := ?_) rfl (by kernel_rfl) (by kernel_rfl) (by kernel_rfl) (fun _ _ _ h => h) (Or.inl ⟨by rfl, ?_⟩) (by assumption) ?_
      rotate_left 1
      ·intro w hSw
       (try dsimp only at hSw)
       first | (go_simp; done) | (go_simp; with_reducible rfl)
      try simp only [Act.put, sA, sB, sC]
      refine wpAnyH_take (i := 7) (oi := ⟨some 56, .load 24 (.tmp 55), 24, "laws.go:824", #[⟨6, .data⟩, ⟨1, .guard⟩], some (1, true)⟩) (v := ?_) rfl (by kernel_rfl) (by kernel_rfl) (by kernel_rfl) (fun _ _ _ h => h) (Or.inl ⟨by rfl, ?_⟩) (by assumption) ?_
      rotate_left 1
      ·intro w hSw
       (try dsimp only at hSw)
       first | (go_simp; done) | (go_simp; with_reducible rfl)
      try simp only [Act.put, sA, sB, sC]
      refine wpAnyH_ready (rs := [8]) (by kernel_rfl) (by simp) ?_
      refine AllReadyH.cons (o := ⟨some 57, .call { callee := .value (.func 12), args := #[.tmp 51, .tmp 56], argTypes := #[26, 24] }, 4, "laws.go:824", #[⟨2, .data⟩, ⟨7, .data⟩, ⟨1, .chain⟩, ⟨1, .guard⟩], some (1, true)⟩) rfl (fun K hK => ?_) AllReadyH.nil
      go_simp
      refine (dUnhide CH wd hwd).mono ?_
      rintro e wd' ⟨⟨b9, rfl, h9⟩, bl9⟩
      replace hwd := belowThen hwd bl9
      have GT9 : Hid (b9 = true ↔ (PMn ∧ m.planned = true ∧ ∀ i (h : i < rs.length), i < k + 1 → holdsP ds cop rs[i].m)) := dUnhide GT b9 h9
      clear bl9 h9
      generalize wd' = wd at *
      (try go_wp2_with fail)
      refine hK.out _ _ (by first | exact dUnhide PK _ hwd | exact dUnhide PK _ bd) (fun hHeld => ?_)
      clear hK K
      try simp only [Act.put, sA, sB, sC]
      refine wpAnyH_take (i := 9) (oi := ⟨some 58, .pick (.tmp 50) (.tmp 57) (.const (.bool false)), 4, "laws.go:824", #[⟨1, .data⟩, ⟨8, .data⟩], none⟩) (v := ?_) rfl (by kernel_rfl) (by kernel_rfl) (by kernel_rfl) (fun _ _ _ h => h) (Or.inl ⟨by rfl, ?_⟩) (by assumption) ?_
      rotate_left 1
      ·intro w hSw
       (try dsimp only at hSw)
       first | (go_simp; done) | (go_simp; with_reducible rfl)
      try simp only [Act.put, sA, sB, sC]
      refine wpAnyH_take (i := 10) (oi := ⟨some 6, .assign (.tmp 58), 4, "laws.go:824", #[⟨9, .data⟩, ⟨8, .chain⟩, ⟨0, .phase⟩, ⟨1, .phase⟩, ⟨2, .phase⟩, ⟨3, .phase⟩, ⟨4, .phase⟩, ⟨5, .phase⟩, ⟨6, .phase⟩, ⟨7, .phase⟩, ⟨8, .phase⟩, ⟨9, .phase⟩], none⟩) (v := ?_) rfl (by kernel_rfl) (by kernel_rfl) (by kernel_rfl) (fun _ _ _ h => h) (Or.inl ⟨by rfl, ?_⟩) (by assumption) ?_
      rotate_left 1
      ·intro w hSw
       (try dsimp only at hSw)
       first | (go_simp; done) | (go_simp; with_reducible rfl)
      try simp only [Act.put, sA, sB, sC]
      refine wpAnyH_done (by kernel_rfl) ?_ _
      refine NoPanic.normal ?_
      have hw2 := belowThen hb hwd
      clear PK GT CH
      go_wp2
      go_roundw
      case rel => exact ⟨k + 1, b9, rfl, by go_num, by omega, GT9, hw2⟩
      case measure => simp [intOf]; omega
    ·have ebr : (br == bv) = true := by
      have h1 := dUnhide HBr
      have h2 := dUnhide hE
      have h3 := dUnhide PR
      have h4 := dUnhide HLN
      have h5 : (bv = true ↔ PRd) := by
       rw [h2, h3]
       constructor
       ·rintro ⟨a, b, c⟩; exact ⟨a, b, fun i hi => c i hi (by omega)⟩
       ·rintro ⟨a, b, c⟩; exact ⟨a, b, fun i hi _ => c i hi⟩
      have h6 := h1.trans h5.symm
      cases br <;> cases bv <;> simp_all
     have CN := dHide (dUnhide HR wr (belowThen b2' (belowThen B8 hb)))
     clear hE PR HBr C5 HRW HLN
     go_wp2_with fail
     refine (dUnhide CN).mono ?_
     rintro e w9 ⟨⟨nx, ny, rfl⟩, b9⟩
     have CM := dHide (implNew_any nx ny w9)
     clear CN q0 q1 q2 q3 q4 q5 q6 q7
     have hyy : (ny == ny) = true := by simp
     have hxx : (nx == nx) = true := by simp
     go_wp2_with fail
     refine (dUnhide CM).mono ?_
     rintro e w10 ⟨rfl, b10⟩
     have BF := belowThen (belowThen (belowThen (belowThen b2' (belowThen B8 hb)) b9) b10) (ba _ (.cells #[.int .i64 ny, .int .i64 nx, .slice none 0 0, .slice none 0 0, .bool false, .slice none 0 0] 30))
     clear CM
     go_wp2
     go_ret
     exact ⟨by first | rfl | simp, BF⟩
  case true =>
   have I0 := dHide (dUnhide J1 rfl)
   clear J0 J1
   go_wp2
   go_loopw [6, 7] (fun e x wr => ∃ (k : Nat) (bv : Bool), e = .bool bv ∧ x = .int .i64 (k : Int) ∧ k ≤ m.wrote.length ∧ Hid (bv = true ↔ (PMn ∧ m.planned = true ∧ ∀ i (h : i < rs.length), i < k → holdsP ds cop rs[i].m)) ∧ Below w8.heap.size w8 wr) (fun _ x _ => m.wrote.length - (intOf x).toNat)
   case atStart => exact ⟨0, m.planned, rfl, rfl, Nat.zero_le _, I0, Below.refl _ _⟩
   case round =>
    obtain ⟨k, bv, rfl, rfl, hk, hE, hb⟩ := hrel
    have q8 := dUnhide PS8 wr hb
    obtain ⟨⟨q0, q1⟩, q2, q3, q4, q5, q6, q7⟩ := q8
    by_cases hlt : (k : Int) < (m.wrote.length : Int)
    ·have hkl : k < rs.length := by have := dUnhide HLN; omega
     obtain ⟨b, off, rfl, hce⟩ := (dUnhide HRW wr (belowThen B8 hb)).ls hkl
     have EE := hce k hkl
     have CH := dHide fun W (hW : Below wr.heap.size wr W) => dUnhide C5 W (belowThen B8 (belowThen hb hW)) k hkl
     have GT : Hid (∀ b9 : Bool, (b9 = true ↔ holdsP ds cop rs[k].m) → bv = true → (b9 = true ↔ (PMn ∧ m.planned = true ∧ ∀ i (h : i < rs.length), i < k + 1 → holdsP ds cop rs[i].m))) := fun b9 h9 hbv => by
      have e0 := (dUnhide hE).1 hbv
      rw [h9]
      constructor
      ·intro h
       refine ⟨e0.1, e0.2.1, fun i hi hik => ?_⟩
       rcases Nat.lt_or_ge i k with h1 | h1
       ·exact e0.2.2 i hi h1
       ·obtain rfl : i = k := by omega
        exact h
      ·intro h
       exact h.2.2 k hkl (by omega)
     have GF : Hid (bv = false → (false = true ↔ (PMn ∧ m.planned = true ∧ ∀ i (h : i < rs.length), i < k + 1 → holdsP ds cop rs[i].m))) := fun hbv => by
      constructor
      ·intro h; cases h
      ·intro h
       have := (dUnhide hE).2 ⟨h.1, h.2.1, fun i hi hik => h.2.2 i hi (by omega)⟩
       rw [hbv] at this
       cases this
     generalize rs[k] = y at *
     obtain ⟨ya, yc, yn⟩ := y
     simp only at EE CH GT
     have PK : Hid (∀ W, Below wr.heap.size wr W → (W.cell? ⟨w2.heap.size, 0, none⟩ = some (.slice ca ds.length cc) ∧ W.cell? ⟨w2.heap.size, 1, none⟩ = some (.int .i64 cop)) ∧ W.cell? ⟨w2.heap.size + 1, 5, none⟩ = some (.slice (some ⟨b, off, none⟩) m.wrote.length wc) ∧ W.cell? ⟨b, off + k, none⟩ = some (.slice ya yn.length yc)) := fun W hW => by
      have q8 := dUnhide PS8 W (belowThen hb hW)
      exact ⟨q8.1, q8.2.2.2.2.2.2, (hW.cell (p := ⟨b, off + k, none⟩) (dCell_lt EE)).trans EE⟩
     have bd : Below wr.heap.size wr wr.drew := (Below.refl _ _).drew
     have hkn : (k : Int) < (m.wrote.length : Int) := hlt
     clear hce EE hE
     cases bv
     ·replace GF := dHide (dUnhide GF rfl)
      clear GT CH
      go_upto_region 11 with fail
      go_wp2_with fail
      have hwd := bd
      refine wp_region_noPanic ?_
      refine wp_region_held_drew (S := fun W => (W.cell? ⟨w2.heap.size, 0, none⟩ = some (.slice ca ds.length cc) ∧ W.cell? ⟨w2.heap.size, 1, none⟩ = some (.int .i64 cop)) ∧ W.cell? ⟨w2.heap.size + 1, 5, none⟩ = some (.slice (some ⟨b, off, none⟩) m.wrote.length wc) ∧ W.cell? ⟨b, off + k, none⟩ = some (.slice ya yn.length yc)) (by kernel_rfl) (by first | exact dUnhide PK _ hwd | exact dUnhide PK _ bd) (fun hHeld => ?_)
      clear bd
      generalize wr.drew = wd at *
      refine wpAnyH_take (i := 0) (oi := ⟨some 49, .move (.tmp 6), 4, "laws.go:824", #[], none⟩) (v := ?_) rfl (by kernel_rfl) (by kernel_rfl) (by kernel_rfl) (fun _ _ _ h => h) (Or.inl ⟨by rfl, ?_⟩) (by assumption) ?_
      rotate_left 1
      ·intro w hSw
       (try dsimp only at hSw)
       first | (go_simp; done) | (go_simp; with_reducible rfl)
      try simp only [Act.put, sA, sB, sC]
      refine wpAnyH_take (i := 1) (oi := ⟨some 50, .move (.tmp 49), 4, "laws.go:824", #[⟨0, .data⟩], none⟩) (v := ?_) rfl (by kernel_rfl) (by kernel_rfl) (by kernel_rfl) (fun _ _ _ h => h) (Or.inl ⟨by rfl, ?_⟩) (by assumption) ?_
      rotate_left 1
      ·intro w hSw
       (try dsimp only at hSw)
       first | (go_simp; done) | (go_simp; with_reducible rfl)
      try simp only [Act.put, sA, sB, sC]
      refine wpAnyH_take (i := 2) (oi := ⟨some 51, .load 26 (.tmp 3), 26, "laws.go:824", #[⟨1, .guard⟩], some (1, true)⟩) (v := undef) rfl (by kernel_rfl) (by kernel_rfl) (by kernel_rfl) (fun _ _ _ h => h) (Or.inr ⟨by rfl, rfl⟩) (by assumption) ?_
      try simp only [Act.put, sA, sB, sC]
      refine wpAnyH_take (i := 3) (oi := ⟨some 52, .fieldAddr 30 (.tmp 4) 5, 0, "laws.go:824", #[⟨1, .guard⟩], some (1, true)⟩) (v := undef) rfl (by kernel_rfl) (by kernel_rfl) (by kernel_rfl) (fun _ _ _ h => h) (Or.inr ⟨by rfl, rfl⟩) (by assumption) ?_
      try simp only [Act.put, sA, sB, sC]
      refine wpAnyH_take (i := 4) (oi := ⟨some 53, .load 28 (.tmp 52), 28, "laws.go:824", #[⟨3, .data⟩, ⟨1, .guard⟩], some (1, true)⟩) (v := undef) rfl (by kernel_rfl) (by kernel_rfl) (by kernel_rfl) (fun _ _ _ h => h) (Or.inr ⟨by rfl, rfl⟩) (by assumption) ?_
      try simp only [Act.put, sA, sB, sC]
      refine wpAnyH_take (i := 5) (oi := ⟨some 54, .move (.tmp 7), 3, "laws.go:824", #[⟨1, .guard⟩], some (1, true)⟩) (v := undef) rfl (by kernel_rfl) (by kernel_rfl) (by kernel_rfl) (fun _ _ _ h => h) (Or.inr ⟨by rfl, rfl⟩) (by assumption) ?_
      try simp only [Act.put, sA, sB, sC]
      refine wpAnyH_take (i := 6) (oi := ⟨some 55, .indexAddr 28 (.tmp 53) (.tmp 54), 0, "laws.go:824", #[⟨4, .data⟩, ⟨5, .data⟩, ⟨1, .guard⟩], some (1, true)⟩) (v := undef) rfl (by kernel_rfl) (by kernel_rfl) (by kernel_rfl) (fun _ _ _ h => h) (Or.inr ⟨by rfl, rfl⟩) (by assumption) ?_
      try simp only [Act.put, sA, sB, sC]
      refine wpAnyH_take (i := 7) (oi := ⟨some 56, .load 24 (.tmp 55), 24, "laws.go:824", #[⟨6, .data⟩, ⟨1, .guard⟩], some (1, true)⟩) (v := undef) rfl (by kernel_rfl) (by kernel_rfl) (by kernel_rfl) (fun _ _ _ h => h) (Or.inr ⟨by rfl, rfl⟩) (by assumption) ?_
      try simp only [Act.put, sA, sB, sC]
      refine wpAnyH_take (i := 8) (oi := ⟨some 57, .call { callee := .value (.func 12), args := #[.tmp 51, .tmp 56], argTypes := #[26, 24] }, 4, "laws.go:824", #[⟨2, .data⟩, ⟨7, .data⟩, ⟨1, .chain⟩, ⟨1, .guard⟩], some (1, true)⟩) (v := undef) rfl (by kernel_rfl) (by kernel_rfl) (by kernel_rfl) (fun _ _ _ h => h) (Or.inr ⟨by rfl, rfl⟩) (by assumption) ?_
      try simp only [Act.put, sA, sB, sC]
      refine wpAnyH_take (i := 9) (oi := ⟨some 58, .pick (.tmp 50) (.tmp 57) (.const (.bool false)), 4, "laws.go:824", #[⟨1, .data⟩, ⟨8, .data⟩], none⟩) (v := ?_) rfl (by kernel_rfl) (by kernel_rfl) (by kernel_rfl) (fun _ _ _ h => h) (Or.inl ⟨by rfl, ?_⟩) (by assumption) ?_
      rotate_left 1
      ·intro w hSw
       (try dsimp only at hSw)
       first | (go_simp; done) | (go_simp; with_reducible rfl)
      try simp only [Act.put, sA, sB, sC]
      refine wpAnyH_take (i := 10) (oi := ⟨some 6, .assign (.tmp 58), 4, "laws.go:824", #[⟨9, .data⟩, ⟨8, .chain⟩, ⟨0, .phase⟩, ⟨1, .phase⟩, ⟨2, .phase⟩, ⟨3, .phase⟩, ⟨4, .phase⟩, ⟨5, .phase⟩, ⟨6, .phase⟩, ⟨7, .phase⟩, ⟨8, .phase⟩, ⟨9, .phase⟩], none⟩) (v := ?_) rfl (by kernel_rfl) (by kernel_rfl) (by kernel_rfl) (fun _ _ _ h => h) (Or.inl ⟨by rfl, ?_⟩) (by assumption) ?_
      rotate_left 1
      ·intro w hSw
       (try dsimp only at hSw)
       first | (go_simp; done) | (go_simp; with_reducible rfl)
      try simp only [Act.put, sA, sB, sC]
      refine wpAnyH_done (by kernel_rfl) ?_ _
      refine NoPanic.normal ?_
      have hw2 := belowThen hb hwd
      go_wp2
      go_roundw
      case rel => exact ⟨k + 1, false, rfl, by go_num, by omega, GF, hw2⟩
      case measure => simp [intOf]; omega
     ·replace GT := dHide fun b9 h9 => dUnhide GT b9 h9 rfl
      clear GF
      go_upto_region 11 with fail
      go_wp2_with fail
      have hwd := bd
      refine wp_region_noPanic ?_
      refine wp_region_held_drew (S := fun W => (W.cell? ⟨w2.heap.size, 0, none⟩ = some (.slice ca ds.length cc) ∧ W.cell? ⟨w2.heap.size, 1, none⟩ = some (.int .i64 cop)) ∧ W.cell? ⟨w2.heap.size + 1, 5, none⟩ = some (.slice (some ⟨b, off, none⟩) m.wrote.length wc) ∧ W.cell? ⟨b, off + k, none⟩ = some (.slice ya yn.length yc)) (by kernel_rfl) (by first | exact dUnhide PK _ hwd | exact dUnhide PK _ bd) (fun hHeld => ?_)
      clear bd
      generalize wr.drew = wd at *
      refine wpAnyH_take (i := 0) (oi := ⟨some 49, .move (.tmp 6), 4, "laws.go:824", #[], none⟩) (v := ?_) rfl (by kernel_rfl) (by kernel_rfl) (by kernel_rfl) (fun _ _ _ h => h) (Or.inl ⟨by rfl, ?_⟩) (by assumption) ?_
      rotate_left 1
      ·intro w hSw
       (try dsimp only at hSw)
       first | (go_simp; done) | (go_simp; with_reducible rfl)
      try simp only [Act.put, sA, sB, sC]
      refine wpAnyH_take (i := 1) (oi := ⟨some 50, .move (.tmp 49), 4, "laws.go:824", #[⟨0, .data⟩], none⟩) (v := ?_) rfl (by kernel_rfl) (by kernel_rfl) (by kernel_rfl) (fun _ _ _ h => h) (Or.inl ⟨by rfl, ?_⟩) (by assumption) ?_
      rotate_left 1
      ·intro w hSw
       (try dsimp only at hSw)
       first | (go_simp; done) | (go_simp; with_reducible rfl)
      try simp only [Act.put, sA, sB, sC]
      refine wpAnyH_take (i := 2) (oi := ⟨some 51, .load 26 (.tmp 3), 26, "laws.go:824", #[⟨1, .guard⟩], some (1, true)⟩) (v := ?_) rfl (by kernel_rfl) (by kernel_rfl) (by kernel_rfl) (fun _ _ _ h => h) (Or.inl ⟨by rfl, ?_⟩) (by assumption) ?_
      rotate_left 1
      ·intro w hSw
       (try dsimp only at hSw)
       first | (go_simp; done) | (go_simp; with_reducible rfl)
      try simp only [Act.put, sA, sB, sC]
      refine wpAnyH_take (i := 3) (oi := ⟨some 52, .fieldAddr 30 (.tmp 4) 5, 0, "laws.go:824", #[⟨1, .guard⟩], some (1, true)⟩) (v := ?_) rfl (by kernel_rfl) (by kernel_rfl) (by kernel_rfl) (fun _ _ _ h => h) (Or.inl ⟨by rfl, ?_⟩) (by assumption) ?_
      rotate_left 1
      ·intro w hSw
       (try dsimp only at hSw)
       first | (go_simp; done) | (go_simp; with_reducible rfl)
      try simp only [Act.put, sA, sB, sC]
      refine wpAnyH_take (i := 4) (oi := ⟨some 53, .load 28 (.tmp 52), 28, "laws.go:824", #[⟨3, .data⟩, ⟨1, .guard⟩], some (1, true)⟩) (v := ?_) rfl (by kernel_rfl) (by kernel_rfl) (by kernel_rfl) (fun _ _ _ h => h) (Or.inl ⟨by rfl, ?_⟩) (by assumption) ?_
      rotate_left 1
      ·intro w hSw
       (try dsimp only at hSw)
       first | (go_simp; done) | (go_simp; with_reducible rfl)
      try simp only [Act.put, sA, sB, sC]
      refine wpAnyH_take (i := 5) (oi := ⟨some 54, .move (.tmp 7), 3, "laws.go:824", #[⟨1, .guard⟩], some (1, true)⟩) (v := ?_) rfl (by kernel_rfl) (by kernel_rfl) (by kernel_rfl) (fun _ _ _ h => h) (Or.inl ⟨by rfl, ?_⟩) (by assumption) ?_
      rotate_left 1
      ·intro w hSw
       (try dsimp only at hSw)
       first | (go_simp; done) | (go_simp; with_reducible rfl)
      try simp only [Act.put, sA, sB, sC]
      refine wpAnyH_take (i := 6) (oi := ⟨some 55, .indexAddr 28 (.tmp 53) (.tmp 54), 0, "laws.go:824", #[⟨4, .data⟩, ⟨5, .data⟩, ⟨1, .guard⟩], some (1, true)⟩) (v := ?_) rfl (by kernel_rfl) (by kernel_rfl) (by kernel_rfl) (fun _ _ _ h => h) (Or.inl ⟨by rfl, ?_⟩) (by assumption) ?_
      rotate_left 1
      ·intro w hSw
       (try dsimp only at hSw)
       first | (go_simp; done) | (go_simp; with_reducible rfl)
      try simp only [Act.put, sA, sB, sC]
      refine wpAnyH_take (i := 7) (oi := ⟨some 56, .load 24 (.tmp 55), 24, "laws.go:824", #[⟨6, .data⟩, ⟨1, .guard⟩], some (1, true)⟩) (v := ?_) rfl (by kernel_rfl) (by kernel_rfl) (by kernel_rfl) (fun _ _ _ h => h) (Or.inl ⟨by rfl, ?_⟩) (by assumption) ?_
      rotate_left 1
      ·intro w hSw
       (try dsimp only at hSw)
       first | (go_simp; done) | (go_simp; with_reducible rfl)
      try simp only [Act.put, sA, sB, sC]
      refine wpAnyH_ready (rs := [8]) (by kernel_rfl) (by simp) ?_
      refine AllReadyH.cons (o := ⟨some 57, .call { callee := .value (.func 12), args := #[.tmp 51, .tmp 56], argTypes := #[26, 24] }, 4, "laws.go:824", #[⟨2, .data⟩, ⟨7, .data⟩, ⟨1, .chain⟩, ⟨1, .guard⟩], some (1, true)⟩) rfl (fun K hK => ?_) AllReadyH.nil
      go_simp
      refine (dUnhide CH wd hwd).mono ?_
      rintro e wd' ⟨⟨b9, rfl, h9⟩, bl9⟩
      replace hwd := belowThen hwd bl9
      have GT9 : Hid (b9 = true ↔ (PMn ∧ m.planned = true ∧ ∀ i (h : i < rs.length), i < k + 1 → holdsP ds cop rs[i].m)) := dUnhide GT b9 h9
      clear bl9 h9
      generalize wd' = wd at *
      (try go_wp2_with fail)
      refine hK.out _ _ (by first | exact dUnhide PK _ hwd | exact dUnhide PK _ bd) (fun hHeld => ?_)
      clear hK K
      try simp only [Act.put, sA, sB, sC]
      refine wpAnyH_take (i := 9) (oi := ⟨some 58, .pick (.tmp 50) (.tmp 57) (.const (.bool false)), 4, "laws.go:824", #[⟨1, .data⟩, ⟨8, .data⟩], none⟩) (v := ?_) rfl (by kernel_rfl) (by kernel_rfl) (by kernel_rfl) (fun _ _ _ h => h) (Or.inl ⟨by rfl, ?_⟩) (by assumption) ?_
      rotate_left 1
      ·intro w hSw
       (try dsimp only at hSw)
       first | (go_simp; done) | (go_simp; with_reducible rfl)
      try simp only [Act.put, sA, sB, sC]
      refine wpAnyH_take (i := 10) (oi := ⟨some 6, .assign (.tmp 58), 4, "laws.go:824", #[⟨9, .data⟩, ⟨8, .chain⟩, ⟨0, .phase⟩, ⟨1, .phase⟩, ⟨2, .phase⟩, ⟨3, .phase⟩, ⟨4, .phase⟩, ⟨5, .phase⟩, ⟨6, .phase⟩, ⟨7, .phase⟩, ⟨8, .phase⟩, ⟨9, .phase⟩], none⟩) (v := ?_) rfl (by kernel_rfl) (by kernel_rfl) (by kernel_rfl) (fun _ _ _ h => h) (Or.inl ⟨by rfl, ?_⟩) (by assumption) ?_
      rotate_left 1
      ·intro w hSw
       (try dsimp only at hSw)
       first | (go_simp; done) | (go_simp; with_reducible rfl)
      try simp only [Act.put, sA, sB, sC]
      refine wpAnyH_done (by kernel_rfl) ?_ _
      refine NoPanic.normal ?_
      have hw2 := belowThen hb hwd
      clear PK GT CH
      go_wp2
      go_roundw
      case rel => exact ⟨k + 1, b9, rfl, by go_num, by omega, GT9, hw2⟩
      case measure => simp [intOf]; omega
    ·have ebr : (br == bv) = true := by
      have h1 := dUnhide HBr
      have h2 := dUnhide hE
      have h3 := dUnhide PR
      have h4 := dUnhide HLN
      have h5 : (bv = true ↔ PRd) := by
       rw [h2, h3]
       constructor
       ·rintro ⟨a, b, c⟩; exact ⟨a, b, fun i hi => c i hi (by omega)⟩
       ·rintro ⟨a, b, c⟩; exact ⟨a, b, fun i hi _ => c i hi⟩
      have h6 := h1.trans h5.symm
      cases br <;> cases bv <;> simp_all
     have CN := dHide (dUnhide HR wr (belowThen b2' (belowThen B8 hb)))
     clear hE PR HBr C5 HRW HLN
     go_wp2_with fail
     refine (dUnhide CN).mono ?_
     rintro e w9 ⟨⟨nx, ny, rfl⟩, b9⟩
     have CM := dHide (implNew_any nx ny w9)
     clear CN q0 q1 q2 q3 q4 q5 q6 q7
     have hyy : (ny == ny) = true := by simp
     have hxx : (nx == nx) = true := by simp
     go_wp2_with fail
     refine (dUnhide CM).mono ?_
     rintro e w10 ⟨rfl, b10⟩
     have BF := belowThen (belowThen (belowThen (belowThen b2' (belowThen B8 hb)) b9) b10) (ba _ (.cells #[.int .i64 ny, .int .i64 nx, .slice none 0 0, .slice none 0 0, .bool false, .slice none 0 0] 30))
     clear CM
     go_wp2
     go_ret
     exact ⟨by first | rfl | simp, BF⟩
end Go.Proofs.Ytapfdmmfhfkhkaa
