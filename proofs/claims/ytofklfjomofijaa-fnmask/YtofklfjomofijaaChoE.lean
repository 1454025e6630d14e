/- Draws of chapter 5: DrawMaskNodes, DrawNodesMask, DrawChoose. -/
import Derived.Test.YtofklfjomofijaaChoA
import Derived.Test.YtofklfjomofijaaAppN
import Derived.Test.YtofklfjomofijaaDrwE
import Derived.Deep.RegionHeld3
import Derived.Deep.DeepCutAuto
namespace Go.Proofs.Ytofklfjomofijaa
open Go.ChangeShapes Go.WideShapes Go.ChangeAt Go.RowKit
set_option linter.unusedVariables false
set_option linter.unusedSimpArgs false

theorem drawMaskNodes_any (a : Option Addr) (len cap : Nat) (w : World) (hr : Row8 w a len) :
    Calls Try.prog 9 #[.slice a len cap] w fun e w' => (∃ x, I64 x ∧ e = .returned (.int .i64 x)) ∧ Below w.heap.size w w' := by
  go_enter Try.func9, Try.ntmps9
  go_wp2_with fail
  refine (l1New_any a len cap w hr).mono ?_
  rintro e w1 ⟨bk, rfl, hbk, hc1, hb1⟩
  go_wp2_with fail
  refine (l1Once_any bk 9 (by omega) (by omega) w1 hc1).mono ?_
  rintro e w2 ⟨⟨b, rfl⟩, hc2, hd2⟩
  have B2 := hd2.below hb1 hb1.size hbk
  clear hc1 hd2
  cases b
  · go_wp2_with fail
    refine (l1Below_any bk 256 (by omega) (by omega) w2 hc2).mono ?_
    rintro e w3 ⟨⟨x, hx, rfl⟩, hc3, hd3⟩
    have B3 := hd3.below B2 B2.size hbk
    clear hc2 hd3 hc3
    go_wp2
    go_ret
    exact ⟨⟨_, ⟨by omega, by omega⟩, rfl⟩, B3⟩
  · go_wp2_with fail
    refine (pick_new hc2 [-1, 0, 255, 256, 9223372036854775807] _ (by simp) (by simp) _).mono ?_
    rintro e w3 ⟨⟨v, hv, rfl⟩, hc3, hd3⟩
    have B3 := hd3.below B2 B2.size hbk
    have hi : I64 v := by
      simp only [List.mem_cons, List.not_mem_nil, or_false] at hv
      unfold I64
      omega
    clear hc2 hd3 hc3 hv
    go_wp2
    go_ret
    exact ⟨⟨_, hi, rfl⟩, B3⟩
theorem maskL_int (m : Int) : allInt (maskL m) := fun x hx => by
  have := ((ascP_iff _ _ _).1 (maskL_asc m)).2 x hx
  omega
set_option maxHeartbeats 2000000 in
theorem drawNodesMask_any (a : Option Addr) (len cap : Nat) (w : World) (hr : Row8 w a len) :
    Calls Try.prog 13 #[.slice a len cap] w fun e w' => (∃ u zs, e = .returned u ∧ DrewL w.heap.size u zs w') ∧ Below w.heap.size w w' := by
  go_enter Try.func13, Try.ntmps13
  go_wp2_with fail
  refine (l1New_any a len cap w hr).mono ?_
  rintro e w1 ⟨bk, rfl, hbk, hc1, hb1⟩
  go_wp2_with fail
  refine (l1Below_any bk 256 (by omega) (by omega) w1 hc1).mono ?_
  rintro e w2 ⟨⟨x, hx, rfl⟩, hc2, hd2⟩
  have B2 := hd2.below hb1 hb1.size hbk
  clear hc1 hd2
  go_wp2_with fail
  refine (specMask_any (x : Int) w2).mono ?_
  rintro e w3 ⟨⟨o, rfl, o3⟩, b3⟩
  have hc3 := hc2.below b3
  have B3 := belowThen B2 b3
  have hlen := maskL_len (x : Int)
  have hint := dHide (maskL_int (x : Int))
  have hl3 := hc2.lt
  generalize maskL (x : Int) = L at *
  have s3 := dHide b3.size
  clear hc2 b3
  go_wp2_with fail
  refine (l1Once_any bk 9 (by omega) (by omega) w3 hc3).mono ?_
  rintro e w4 ⟨⟨b, rfl⟩, hc4, hd4⟩
  have o4 := rowN_drawn o3 hd4 (by omega)
  have B4 := hd4.below B3 B3.size hbk
  have s4 := dHide hd4.size
  clear hc3 hd4 o3
  cases b
  · have q : Hid (DrewL w.heap.size o L w4) := ⟨(ownN_of_row o4).mono B2.size, by omega, dUnhide hint⟩
    clear o4
    go_wp2
    go_ret
    exact ⟨⟨_, _, rfl, dUnhide q⟩, B4⟩
  · go_wp2_with fail
    refine (pick_new hc4 [-1, 8, 0] _ (by simp) (by simp) _).mono ?_
    rintro e w5 ⟨⟨v, hv, rfl⟩, hc5, hd5⟩
    have B5 := hd5.below B4 B4.size hbk
    have o5 := rowN_drawn o4 hd5 (by omega)
    have hi : Hid (allInt (L ++ [v])) := fun y hy => by
      rcases List.mem_append.1 hy with h | h
      · exact dUnhide hint y h
      · rw [List.mem_singleton.1 h]
        simp only [List.mem_cons, List.not_mem_nil, or_false] at hv
        omega
    have hlt := o5.lt
    have s5 := dHide hd5.size
    clear hc4 hd5 hc5 hv o4
    go_wp2_with (at_builtin; refine appN _ rfl _ _ rfl w2.heap.size _ L rfl (o5.alloc _) ⟨w5.heap.size, 0, none⟩ 1 1 [v] rfl rfl (one_int _ _ _) ?c3 ?c4 ?_)
    case c3 => simp; omega
    case c4 => have := dUnhide s3; have := dUnhide s4; have := dUnhide s5; simp; omega
    intro v' w6 o6 g6
    have hsz : w2.heap.size ≤ w5.heap.size := by have := dUnhide s3; have := dUnhide s4; have := dUnhide s5; omega
    have B6 : Below w.heap.size w w6 := (B5.alloc B5.size _).grown g6 (by have := B5.size; simp; omega) (fun k hk => by have := (hlt k hk).1; have := B2.size; omega)
    have q : Hid (DrewL w.heap.size v' (L ++ [v]) w6) := ⟨(ownN_of_row o6).mono B2.size, by simp; omega, dUnhide hi⟩
    clear o6 g6 o5 hlt B5
    go_wp2
    go_ret
    exact ⟨⟨_, _, rfl, dUnhide q⟩, B6⟩
set_option maxHeartbeats 2000000 in
set_option maxRecDepth 100000 in
theorem drawChoose_any (a : Option Addr) (len cap : Nat) (w : World) (hr : Row8 w a len) :
    Calls Try.prog 16 #[.slice a len cap] w fun e w' => (∃ c u ds cop zs f, e = .returned (.tuple #[c, u, .int .i64 f]) ∧ DrewC w.heap.size c ds cop w' ∧ DrewL w.heap.size u zs w' ∧ I64 f) ∧ Below w.heap.size w w' := by
  have ha : ∀ (w : World) o, Below w.heap.size w (w.alloc o) := fun w o => (Below.refl _ _).alloc (Nat.le_refl _) o
  go_enter Try.func16, Try.ntmps16
  go_wp2_with fail
  have Z0 := TwoZ.fresh w (.slice none 0 0) (.int .i64 0) 31
  have B0 := ha w (.cells #[.slice none 0 0, .int .i64 0] 31)
  have hs0 : (w.alloc (.cells #[.slice none 0 0, .int .i64 0] 31)).heap.size = w.heap.size + 1 := by simp
  refine (l4DrawOne_any a len cap _ (hr.below B0)).mono ?_
  rintro e w1 ⟨⟨c, u, ds, cop, zs, rfl, C1, L1⟩, b1⟩
  rw [hs0] at C1 L1
  have Z1 := Z0.kept b1
  have B1 := belowThen B0 b1
  have hr1 := dHide (hr.below B1)
  have hz1 := dCell_lt Z1.2.1.1
  have HC1 := dHide C1
  have HL1 := dHide L1
  obtain ⟨sv, rfl, o1, -⟩ := C1
  obtain ⟨-, sa, scap, rfl, -, -⟩ := o1
  obtain ⟨⟨-, ua, ucap, rfl, -, -⟩, -⟩ := L1
  have ba := ha w1 (.cells #[.slice sa ds.length scap, .int .i64 cop] 31)
  have T2 := Two.new w1 (.slice sa ds.length scap) (.int .i64 cop) 31
  have sz2 : Hid (w1.heap.size + 1 = (w1.alloc (.cells #[.slice sa ds.length scap, .int .i64 cop] 31)).heap.size) := by simp [Hid]
  have Z2 := Z1.kept ba
  have B2 := belowThen B1 ba
  have hr2 := dHide ((dUnhide hr1).below ba)
  have HC2 := dHide ((dUnhide HC1).below ba)
  have HL2 := dHide ((dUnhide HL1).below ba)
  clear Z0 Z1 B0 B1 hr1 HC1 HL1 ba b1 hr
  go_wp2_with fail
  generalize hbx : w1.heap.size = bx at *
  generalize w1.alloc (.cells #[.slice sa ds.length scap, .int .i64 cop] 31) = w2 at *
  clear hbx
  refine (l1New_any a len cap w2 (dUnhide hr2)).mono ?_
  rintro e w3 ⟨bk, rfl, hbk, hc3, b3⟩
  have KK : Hid (∀ W, Below w2.heap.size w2 W → TwoZ W w.heap.size w.heap.size (.slice none 0 0) (.int .i64 0) ∧ Two W bx (.slice sa ds.length scap) (.int .i64 cop) ∧ DrewC (w.heap.size + 1) (.agg #[.slice sa ds.length scap, .int .i64 cop]) ds cop W ∧ DrewL (w.heap.size + 1) (.slice ua zs.length ucap) zs W ∧ Below w.heap.size w W) := fun W hb => ⟨Z2.kept hb, T2.kept hb, (dUnhide HC2).below hb, (dUnhide HL2).below hb, belowThen B2 hb⟩
  clear Z2 T2 B2 HC2 HL2 hr2
  have fin : ∀ (f : Int) (w5 : World), I64 f → Below w2.heap.size w2 w5 → Hid (∃ V, V = (w5.setCell ⟨w.heap.size, 0, none⟩ (.slice sa ds.length scap)).setCell ⟨w.heap.size, 1, none⟩ (.int .i64 cop) ∧ V.cell? ⟨w.heap.size, 0, none⟩ = some (.slice sa ds.length scap) ∧ V.cell? ⟨w.heap.size, 1, none⟩ = some (.int .i64 cop) ∧ DrewC w.heap.size (.agg #[.slice sa ds.length scap, .int .i64 cop]) ds cop V ∧ DrewL w.heap.size (.slice ua zs.length ucap) zs V ∧ Below w.heap.size w V) := fun f w5 hf hb => by
    obtain ⟨z, -, c, l, bb⟩ := dUnhide KK w5 hb
    obtain ⟨-, ⟨e0, e1⟩, -⟩ := (z.put0 (.slice sa ds.length scap)).put1 (.int .i64 cop)
    exact ⟨_, rfl, e0, e1, ((c.far (b := w.heap.size) (o := 0) (by omega) _).far (b := w.heap.size) (o := 1) (by omega) _).mono (by omega), ((l.far (b := w.heap.size) (o := 0) (by omega) _).far (b := w.heap.size) (o := 1) (by omega) _).mono (by omega), (bb.setCell (p := ⟨w.heap.size, 0, none⟩) (Nat.le_refl _) _).setCell (p := ⟨w.heap.size, 1, none⟩) (Nat.le_refl _) _⟩
  have FIN := dHide fin
  clear fin
  go_wp2_with fail
  refine (l1Below_any bk 20 (by omega) (by omega) w3 hc3).mono ?_
  rintro e w4 ⟨⟨f, hf, rfl⟩, hc4, hd4⟩
  have b4 := hd4.below b3 b3.size hbk
  clear hc3 hd4 b3
  go_wp2_with fail
  refine (l1Once_any bk 12 (by omega) (by omega) w4 hc4).mono ?_
  rintro e w5 ⟨⟨b, rfl⟩, hc5, hd5⟩
  have b5 := hd5.below b4 b4.size hbk
  clear hc4 hd5 b4
  cases b
  · have hi : I64 (f : Int) := ⟨by omega, by omega⟩
    obtain ⟨V, hV, e0, e1, c5, l5, B5⟩ := dUnhide FIN f w5 hi b5
    obtain ⟨⟨-, ⟨r0, r1⟩, g0, g1⟩, ⟨k0, k1⟩, -⟩ := dUnhide KK w5 b5
    clear hc5 b5 KK FIN
    go_wp2
    rw [← hV]
    refine bodyPost_ret (v := .tuple #[.agg #[.slice sa ds.length scap, .int .i64 cop], .slice ua zs.length ucap, .int .i64 (f : Int)]) (by simp [results, Try.results16, go_sem, e0, e1]) rfl ⟨⟨_, _, _, _, _, _, rfl, c5, l5, hi⟩, B5⟩
  · go_wp2_with fail
    refine (pick_new hc5 [-1, 9223372036854775807] _ (by simp) (by simp) _).mono ?_
    rintro e w6 ⟨⟨v, hv, rfl⟩, hc6, hd6⟩
    have b6 := hd6.below b5 b5.size hbk
    have hi : I64 v := by
      simp only [List.mem_cons, List.not_mem_nil, or_false] at hv
      unfold I64
      omega
    obtain ⟨V, hV, e0, e1, c5, l5, B5⟩ := dUnhide FIN v w6 hi b6
    obtain ⟨⟨-, ⟨r0, r1⟩, g0, g1⟩, ⟨k0, k1⟩, -⟩ := dUnhide KK w6 b6
    clear hc5 b5 hc6 hd6 b6 KK FIN hv
    go_wp2
    rw [← hV]
    refine bodyPost_ret (v := .tuple #[.agg #[.slice sa ds.length scap, .int .i64 cop], .slice ua zs.length ucap, .int .i64 v]) (by simp [results, Try.results16, go_sem, e0, e1]) rfl ⟨⟨_, _, _, _, _, _, rfl, c5, l5, hi⟩, B5⟩
end Go.Proofs.Ytofklfjomofijaa
