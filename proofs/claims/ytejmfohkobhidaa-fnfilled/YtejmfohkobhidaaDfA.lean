/- Draws: DrawFill. -/
import Derived.Test.YtejmfohkobhidaaUdA
import Derived.Test.YtejmfohkobhidaaGf2
import Derived.Test.YtejmfohkobhidaaGf3
import Derived.Test.YtejmfohkobhidaaGaD
import Derived.Deep.RegionHeld3
import Derived.Deep.DeepCutAuto
namespace Go.Proofs.Ytejmfohkobhidaa
open Go.ChangeShapes Go.WideShapes Go.ChangeAt Go.RowKit
set_option linter.unusedVariables false
set_option linter.unusedSimpArgs false
set_option maxRecDepth 100000

theorem ownN_one (w : World) (y : Int) (T : TypeId) (base : Nat) (hb : base ≤ w.heap.size) : OwnN (w.alloc (.cells #[.int .i64 y] T)) base (.slice (some ⟨w.heap.size, 0, none⟩) 1 1) [y] := by
  have Z := BxZ.new (B := 0) w [.int .i64 y] T (Nat.zero_le _)
  refine ⟨by simp, _, 1, rfl, by simp, .inr ⟨w.heap.size, 0, rfl, hb, fun i hi => ?_⟩⟩
  obtain rfl : i = 0 := by simpa using hi
  exact Z.2 0 _ rfl
theorem quo19 (x : Nat) (h : x < 20) : ∃ q : Nat, q ≤ 1 ∧ (x : Int).tdiv 19 = (q : Int) := by
  rcases Nat.lt_or_ge x 19 with h1 | h1
  · exact ⟨0, by omega, Int.tdiv_eq_zero_of_lt (by omega) (by omega)⟩
  · obtain rfl : x = 19 := by omega
    exact ⟨1, by omega, by decide⟩
theorem DrewO.mono {lo lo' n : Nat} {W : World} {o : Value} (h : DrewO lo W o n) (hl : lo' ≤ lo) : DrewO lo' W o n := by
  obtain ⟨rs, h1, ⟨h0, a, cap, rfl, h2, h3⟩, h4⟩ := h
  refine ⟨rs, h1, ⟨h0, a, cap, rfl, h2, ?_⟩, fun p hp => ⟨(h4 p hp).1.mono hl, (h4 p hp).2⟩⟩
  rcases h3 with h3 | ⟨b, off, rfl, hb, hc⟩
  · exact .inl h3
  · exact .inr ⟨b, off, rfl, by omega, hc⟩
theorem putL_two (z y : Int) : putL z [y] = [y] ∨ putL z [y] = [z, y] ∨ putL z [y] = [y, z] := by
  unfold putL
  split
  · exact .inl rfl
  · unfold putA
    simp only [putA]
    split
    · exact .inr (.inl rfl)
    · exact .inr (.inr rfl)
/-- What DrawFill hands back. -/
def DrewF (w w' : World) (r : Value) : Prop := ∃ c o lv ds cop ls n node upto, r = .tuple #[c, o, lv, .int .i64 node, .int .i64 upto] ∧ DrewC w.heap.size c ds cop w' ∧ DrewO w.heap.size w' o n ∧ DrewL w.heap.size lv ls w' ∧ n ≤ 10 ∧ I64 upto
set_option maxHeartbeats 8000000 in
theorem drawFill_any (a : Option Addr) (len cap : Nat) (w : World) (hr : Row8 w a len) :
    Calls Try.prog 18 #[.slice a len cap] w fun e w' => (∃ r, e = .returned r ∧ DrewF w w' r) ∧ Below w.heap.size w w' := by
  have ba : ∀ (w : World) o, Below w.heap.size w (w.alloc o) := fun w o => (Below.refl _ _).alloc (Nat.le_refl _) o
  have b0 := ba w (.cells #[.slice none 0 0, .int .i64 0] 42)
  have Z0 := BxZ.new (B := w.heap.size) w [.slice none 0 0, .int .i64 0] 42 (Nat.le_refl _)
  have hr0 := hr.below b0
  have e1 : (w.alloc (.cells #[.slice none 0 0, .int .i64 0] 42)).heap.size = w.heap.size + 1 := by simp
  go_enter Try.func18, Try.ntmps18
  go_wp2_with fail
  generalize w.alloc (.cells #[.slice none 0 0, .int .i64 0] 42) = w0 at *
  refine (l1New_any a len cap w0 hr0).mono ?_
  rintro e w1 ⟨bk, rfl, hbk, hc1, hb1⟩
  have hk1 := hc1.lt
  have Z1 := Z0.below hb1
  have B1 := belowThen b0 hb1
  clear hr hr0 Z0 b0 hb1
  go_wp2_with fail
  refine (l4DrawRight_any bk w1 hc1).mono ?_
  rintro e w2 ⟨⟨sv, ds, cop, rfl, o2, hdl, hda, hcp⟩, hc2, hd2⟩
  have O2 := ownN_of_row o2
  obtain ⟨-, sa, scp, rfl, -, -⟩ := id O2
  have Z2 := Z1.drawn hd2 (by omega)
  have B2 := hd2.below B1 B1.size (by omega)
  have hs2 := hd2.size
  have bA := ba w2 (.cells #[.slice sa ds.length scp, .int .i64 cop] 42)
  have X3 := Bx.new w2 [.slice sa ds.length scp, .int .i64 cop] 42
  have Z3 := Z2.below bA
  have B3 := belowThen B2 bA
  have O3 := O2.below bA
  have hc3 := hc2.below bA
  have hsx : w2.heap.size ≠ bk := by have := hc2.lt; omega
  have hk3 : bk < w2.heap.size := by have := hc2.lt; omega
  have hs3 : w2.heap.size < (w2.alloc (.cells #[.slice sa ds.length scp, .int .i64 cop] 42)).heap.size := by simp
  clear hc1 Z1 B1 o2 O2 hc2 Z2 B2 hd2 bA
  go_wp2_with fail
  generalize hbx : w2.heap.size = bx at *
  generalize w2.alloc (.cells #[.slice sa ds.length scp, .int .i64 cop] 42) = w3 at *
  have k0 := X3 0 _ rfl
  have CB := dHide (l1Below_any bk 20 (by omega) (by omega) w3.drew (hc3.below (Below.refl _ _).drew))
  go_region_held3 (fun W => W.cell? ⟨bx, 0, none⟩ = some (.slice sa ds.length scp)) (go_keep)
    (first | (go_at_call 44; refine (dUnhide CB).mono ?_; rintro r w4 ⟨⟨x, hx, rfl⟩, hc4, hd4'⟩; have hd4 := (Drawn.refl bk w3).drew.trans hd4'; have q0 := (X3.drawn hd4 hsx) 0 _ rfl; obtain ⟨q, hq, hq2⟩ := quo19 x hx; have hw1 : IntKind.i64.wrap (q : Int) = (q : Int) := (by rw [IntKind.wrap_i64]; omega); have hw2 : IntKind.i64.wrap ((ds.length : Int) + (q : Int)) = ((ds.length + q : Nat) : Int) := (by rw [IntKind.wrap_i64]; omega)))
  all_goals
    have CU := dHide (l11DrawStores_o bk (ds.length + q) (by omega) w4 hc4)
    clear hw1 hw2 hq2 hx CB k0 q0
    have X4 := X3.drawn hd4 hsx
    have Z4 := Z3.drawn hd4 (by omega)
    have O4 := O3.drawn hd4 (by omega)
    have B4 := hd4.below B3 B3.size (by omega)
    have hs4 := hd4.size
    clear hd4 hd4' X3 Z3 O3 B3 hc3 hc4
    rw [Int.natCast_add] at CU
    go_wp2_with fail
    refine (dUnhide CU).mono ?_
    rintro r w5 ⟨⟨o, rfl, U5⟩, hc5, hd5⟩
    replace X4 := X4.drawn hd5 (by omega)
    replace Z4 := Z4.drawn hd5 (by omega)
    replace O4 := O4.drawn hd5 (by omega)
    replace B4 := hd5.below B4 B4.size (by omega)
    have hs5 := hd5.size
    have CB5 := dHide (l1Below_any bk ds.length (by omega) (by omega) w5 hc5)
    have k0 := X4 0 _ rfl
    clear CU hd5
    go_wp2_with fail
    refine (dUnhide CB5).mono ?_
    rintro r w6 ⟨⟨y, hy, rfl⟩, hc6, hd6⟩
    replace X4 := X4.drawn hd6 (by omega)
    replace Z4 := Z4.drawn hd6 (by omega)
    replace O4 := O4.drawn hd6 (by omega)
    replace B4 := hd6.below B4 B4.size (by omega)
    replace U5 := U5.drawn hd6 (by omega)
    have hs6 := hd6.size
    have L7 := ownN_one w6 (y : Int) 3 w4.heap.size (by omega)
    have b7 := ba w6 (.cells #[.int .i64 (y : Int)] 3)
    replace X4 := X4.below b7
    replace Z4 := Z4.below b7
    replace O4 := O4.below b7
    replace B4 := belowThen B4 b7
    replace U5 := U5.below b7
    have hc7 := hc6.below b7
    have hs7 := b7.size
    clear CB5 hc5 hc6 hd6 k0 b7
    have k0 := X4 0 _ rfl
    go_wp2_with fail
    generalize hlb : w6.heap.size = lb at *
    generalize w6.alloc (.cells #[.int .i64 (y : Int)] 3) = w7 at *
    refine (l1Once_any bk 2 (by omega) (by omega) w7 hc7).mono ?_
    rintro r w8 ⟨⟨q8, rfl⟩, hc8, hd8⟩
    replace X4 := X4.drawn hd8 (by omega)
    replace Z4 := Z4.drawn hd8 (by omega)
    replace O4 := O4.drawn hd8 (by omega)
    replace B4 := hd8.below B4 B4.size (by omega)
    replace U5 := U5.drawn hd8 (by omega)
    replace L7 := L7.drawn hd8 (by omega)
    have hs8 := hd8.size
    clear hc7 hd8 k0
    have HX := dHide X4
    have HZ := dHide Z4
    have HO := dHide O4
    have HB := dHide B4
    have HU := dHide U5
    have k0 := X4 0 _ rfl
    clear X4 Z4 O4 B4 U5
    have hy7 : allInt [(y : Int)] := fun d hd => by
      obtain rfl : d = (y : Int) := by simpa using hd
      omega
    go_upto_if 34 with fail
    go_cut [11] (fun lv wx => ∃ ls, Hid (OwnN wx w4.heap.size lv ls) ∧ (1 ≤ ls.length ∧ ls.length ≤ 2) ∧ allInt ls ∧ Hid (Cur wx bk) ∧ Hid (Drawn bk w8 wx))
    case first =>
      cases q8
      · go_wp2_with fail
        go_meet
        case rel => exact ⟨[(y : Int)], L7, ⟨by simp, by simp⟩, hy7, hc8, Drawn.refl _ _⟩
      · have CB8 := dHide (l1Below_any bk ds.length (by omega) (by omega) w8 hc8)
        go_wp2_with fail
        refine (dUnhide CB8).mono ?_
        rintro r w9 ⟨⟨z, hz, rfl⟩, hc9, hd9⟩
        have L9 := L7.drawn hd9 (by omega)
        have CP := dHide (l4Put_all _ [(y : Int)] (z : Int) w9 L9.bs (by simp))
        have hs9 := hd9.size
        clear CB8 L7 L9 k0
        go_wp2_with fail
        refine (dUnhide CP).mono ?_
        rintro r w10 ⟨⟨u, rfl, O10⟩, b10⟩
        have hp : putL (z : Int) [(y : Int)] = [(y : Int)] ∨ putL (z : Int) [(y : Int)] = [(z : Int), (y : Int)] ∨ putL (z : Int) [(y : Int)] = [(y : Int), (z : Int)] := putL_two _ _
        have h1 : (1 ≤ (putL (z : Int) [(y : Int)]).length ∧ (putL (z : Int) [(y : Int)]).length ≤ 2) ∧ allInt (putL (z : Int) [(y : Int)]) := by
          rcases hp with h | h | h
          all_goals
            rw [h]
            refine ⟨by simp, fun d hd => ?_⟩
            simp only [List.mem_cons, List.not_mem_nil, or_false] at hd
            omega
        have R10 := dHide (O10.mono (base' := w4.heap.size) (by omega))
        have C10 := dHide (hc9.below b10)
        have D10 := dHide (hd9.trans (Drawn.of_below b10))
        clear CP hp O10 b10 hc9 hd9
        go_wp2_with fail
        go_meet
        case rel => exact ⟨_, R10, h1.1, h1.2, C10, D10⟩
    case rest =>
      obtain ⟨ls, HL, hll, hla, hcx, hdx⟩ := hcut
      generalize wc = w11 at *
      clear k0 L7 hc8 hy7
      have hd11 := dUnhide hdx
      have X4 := (dUnhide HX).drawn hd11 (by omega)
      have Z4 := (dUnhide HZ).drawn hd11 (by omega)
      have O4 := (dUnhide HO).drawn hd11 (by omega)
      have B4 := hd11.below (dUnhide HB) (dUnhide HB).size (by omega)
      have U5 := (dUnhide HU).drawn hd11 (by omega)
      have hs11 := hd11.size
      have L7 := dUnhide HL
      have hc11 := dUnhide hcx
      clear HX HZ HO HB HU hdx HL hcx hd11
      obtain ⟨-, lsa, lsc, rfl, -, hlc⟩ := id L7
      have CB11 := dHide (l1Below_any bk ls.length (by omega) (by omega) w11 hc11)
      go_wp2_with fail
      refine (dUnhide CB11).mono ?_
      rintro r w12 ⟨⟨v, hv, rfl⟩, hc12, hd12⟩
      replace X4 := X4.drawn hd12 (by omega)
      replace Z4 := Z4.drawn hd12 (by omega)
      replace O4 := O4.drawn hd12 (by omega)
      replace B4 := hd12.below B4 B4.size (by omega)
      replace U5 := U5.drawn hd12 (by omega)
      replace L7 := L7.drawn hd12 (by omega)
      have hs12 := hd12.size
      obtain ⟨-, lsa', lsc', e', -, hlc'⟩ := id L7
      cases e'
      obtain ⟨lb', lo, rfl, hlb', hcl⟩ := orN_of_lt hlc' hv
      obtain ⟨cv, -⟩ := hcl v hv
      have hvi := hla _ (List.getElem_mem hv)
      have hvl : (v : Int) < (ls.length : Int) := by omega
      clear CB11 hc11 hd12 hlc hlc' hcl
      generalize ls[v] = nd at *
      go_wp2_with fail
      refine (l1Once_any bk 9 (by omega) (by omega) w12 hc12).mono ?_
      rintro r w13 ⟨⟨q13, rfl⟩, hc13, hd13⟩
      replace X4 := X4.drawn hd13 (by omega)
      replace Z4 := Z4.drawn hd13 (by omega)
      replace O4 := O4.drawn hd13 (by omega)
      replace B4 := hd13.below B4 B4.size (by omega)
      replace U5 := U5.drawn hd13 (by omega)
      replace L7 := L7.drawn hd13 (by omega)
      have hs13 := hd13.size
      clear hc12 hd13 cv
      have HX := dHide X4
      have HZ := dHide Z4
      have HO := dHide O4
      have HB := dHide B4
      have HU := dHide U5
      have HL := dHide L7
      have k0 := X4 0 _ rfl
      clear X4 Z4 O4 B4 U5 L7
      go_upto_if 50 with fail
      go_cut [12] (fun nv wx => ∃ nd : Int, nv = .int .i64 nd ∧ Hid (Cur wx bk) ∧ Hid (Drawn bk w13 wx))
      case first =>
        cases q13
        · go_wp2_with fail
          go_meet
          case rel => exact ⟨_, rfl, hc13, Drawn.refl _ _⟩
        · have CB13 := dHide (l1Below_any bk (ds.length + 1) (by omega) (by omega) w13 hc13)
          rw [Int.natCast_add] at CB13
          go_wp2_with fail
          refine (dUnhide CB13).mono ?_
          rintro r w14 ⟨⟨z, hz, rfl⟩, hc14, hd14⟩
          have HC := dHide hc14
          have HD := dHide hd14
          clear CB13 hc14 hd14
          go_wp2_with fail
          go_meet
          case rel => exact ⟨_, rfl, HC, HD⟩
      case rest =>
        obtain ⟨nd', rfl, hcx, hdx⟩ := hcut
        generalize wc = w14 at *
        clear k0 hc13
        have hd14 := dUnhide hdx
        have X3 := (dUnhide HX).drawn hd14 (by omega)
        have Z3 := (dUnhide HZ).drawn hd14 (by omega)
        have O3 := (dUnhide HO).drawn hd14 (by omega)
        have B3 := hd14.below (dUnhide HB) (dUnhide HB).size (by omega)
        have U3 := (dUnhide HU).drawn hd14 (by omega)
        have L3 := (dUnhide HL).drawn hd14 (by omega)
        have hs14 := hd14.size
        have hc3 := dUnhide hcx
        clear HX HZ HO HB HU HL hdx hcx hd14
        have CP : Hid (Calls Try.prog 43 #[.pointer (some ⟨bk, 0, none⟩), .slice (some ⟨w14.heap.size, 0, none⟩) 7 7] (w14.alloc (.cells #[.int .i64 0, .int .i64 1, .int .i64 2, .int .i64 3, .int .i64 30, .int .i64 31, .int .i64 (-1)] 3)).drew fun e w' => (∃ v, v ∈ [0, 1, 2, 3, 30, 31, -1] ∧ e = .returned (.int .i64 v)) ∧ Cur w' bk ∧ Drawn bk w14.drew w') := dHide (pick_new (w := w14.drew) (hc3.below (Below.refl _ _).drew) [0, 1, 2, 3, 30, 31, -1] 3 (by simp) (by simp) 7)
        have k0 := X3 0 _ rfl
        have k1 := X3 1 _ rfl
        have XA := X3.below (ba w14 (.cells #[.int .i64 0, .int .i64 1, .int .i64 2, .int .i64 3, .int .i64 30, .int .i64 31, .int .i64 (-1)] 3))
        have j0 := XA 0 _ rfl
        have j1 := XA 1 _ rfl
        clear XA
        go_wp2_with fail
        go_region_law (rw [if_pos (by rfl)]; go_simp; go_at_call 43; refine (dUnhide CP).mono ?_; rintro r w15 ⟨⟨v, hv, rfl⟩, hc15, hd15'⟩; have hd15 := (Drawn.refl bk w14).drew.trans hd15'; have X5 := X3.drawn hd15 (by omega); have Z5 := Z3.drawn hd15 (by omega); have y0 := X5 0 _ rfl; have y1 := X5 1 _ rfl; obtain ⟨z0, f0⟩ := Z5.2 0 _ rfl; obtain ⟨z1, f1⟩ := Z5.2 1 _ rfl; go_simp)
        all_goals
          have DS : Drawn w.heap.size w15 ((w15.setCell ⟨w.heap.size, 0, none⟩ (.slice sa ds.length scp)).setCell ⟨w.heap.size, 1, none⟩ (.int .i64 cop)) := ((Drawn.refl w.heap.size w15).setCell 0 _).setCell 1 _
          have O6 := ((O3.drawn hd15 (by omega)).drawn DS (by omega)).mono (base' := w.heap.size) (by omega)
          have L6 := ((L3.drawn hd15 (by omega)).drawn DS (by omega)).mono (base' := w.heap.size) (by omega)
          have U6 := ((U3.drawn hd15 (by omega)).drawn DS (by omega)).mono (lo' := w.heap.size) (by omega)
          have B6 := DS.below (hd15.below B3 B3.size (by omega)) (hd15.below B3 B3.size (by omega)).size (Nat.le_refl _)
          have hx := ((Z5.put 0 (.slice sa ds.length scp)).put 1 (.int .i64 cop)).bx
          have hI : I64 v := by
            simp only [List.mem_cons, List.mem_nil_iff, or_false] at hv
            unfold I64; omega
          have HC : Hid (DrewC w.heap.size (.agg #[.slice sa ds.length scp, .int .i64 cop]) ds cop ((w15.setCell ⟨w.heap.size, 0, none⟩ (.slice sa ds.length scp)).setCell ⟨w.heap.size, 1, none⟩ (.int .i64 cop))) := ⟨_, rfl, O6, by omega, (fun d h => by have := hda d h; omega), by omega, by omega⟩
          have HL : Hid (DrewL w.heap.size (.slice (some ⟨lb', lo, none⟩) ls.length lsc) ls ((w15.setCell ⟨w.heap.size, 0, none⟩ (.slice sa ds.length scp)).setCell ⟨w.heap.size, 1, none⟩ (.int .i64 cop))) := ⟨L6, by omega, hla⟩
          have HU := dHide U6
          have HB := dHide B6
          have HX := dHide hx
          clear DS O6 L6 U6 B6 hx X5 Z5 y0 y1 z0 z1 f0 f1 k0 k1 j0 j1 hc15 hd15 hd15' hc3 X3 Z3 O3 B3 U3 L3 CP hv
          generalize (w15.setCell ⟨w.heap.size, 0, none⟩ (.slice sa ds.length scp)).setCell ⟨w.heap.size, 1, none⟩ (.int .i64 cop) = V at *
          have q0 := dUnhide HX 0 _ rfl
          have q1 := dUnhide HX 1 _ rfl
          go_wp2
          refine bodyPost_ret (v := .tuple #[.agg #[.slice sa ds.length scp, .int .i64 cop], o, .slice (some ⟨lb', lo, none⟩) ls.length lsc, .int .i64 nd', .int .i64 v]) (by simp [results, Try.results18, go_sem, q0, q1]) rfl ⟨⟨_, rfl, _, _, _, ds, cop, ls, ds.length + q, nd', v, rfl, dUnhide HC, dUnhide HU, dUnhide HL, by omega, hI⟩, dUnhide HB⟩
end Go.Proofs.Ytejmfohkobhidaa
