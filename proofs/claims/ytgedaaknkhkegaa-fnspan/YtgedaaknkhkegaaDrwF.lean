/- A drawn config and two lists: l4DrawTwo, DrawRest, DrawEnough. -/
import Derived.Test.YtgedaaknkhkegaaDrwE
import Derived.Test.YtgedaaknkhkegaaSitN
namespace Go.Proofs.Ytgedaaknkhkegaa
open Go.ChangeShapes Go.WideShapes Go.ChangeAt Go.RowKit
set_option linter.unusedVariables false
set_option linter.unusedSimpArgs false

/-- What l4DrawTwo answers. -/
def DrewTwo (B : Nat) (W : World) (e : Ending) : Prop := ∃ c u v ds cop xs ys, e = .returned (.tuple #[c, u, v]) ∧ DrewC B c ds cop W ∧ DrewL B u xs W ∧ DrewL B v ys W
theorem rowN_cell {w : World} {B n c : Nat} {a : Option Addr} {l : List Int} (h : w.ownsRow B 3 1 (.slice a n c) l.length (ncells l)) {k : Nat} (hk : k < l.length) : ∃ g, a = some ⟨g, 0, none⟩ ∧ w.cell? ⟨g, k, none⟩ = some (.int .i64 l[k]) := by
  rcases h.2 with ⟨h', h0⟩ | ⟨g', cap', cur, h', _⟩
  · omega
  · cases h'
    have h1 := h.cells rfl k (.int .i64 l[k]) (by simp [ncells, hk])
    have e : (⟨g', 0, none⟩ : Addr).add k = ⟨g', k, none⟩ := by unfold Addr.add; split <;> simp_all
    rw [e] at h1
    exact ⟨g', rfl, h1⟩
theorem OwnN.grown {w w' : World} {base : Nat} {v : Value} {xs : List Int} {row : Option Nat} (h : OwnN w base v xs) (g : w.grownBy w' row) (hn : xs = [] ∨ row ≠ some (blockOf v)) : OwnN w' base v xs := by
  obtain ⟨h0, a, cap, rfl, hcap, h⟩ := h
  refine ⟨h0, a, cap, rfl, hcap, ?_⟩
  rcases hn with hn | hn
  · exact .inl hn
  · rcases h with h | ⟨b, off, rfl, hbb, hc⟩
    · exact .inl h
    · refine .inr ⟨b, off, rfl, hbb, fun i hi => ?_⟩
      have e := g.block b (dCell_lt (hc i hi).1) (fun e => hn e.symm)
      exact ⟨(World.cell?_of_block (a := ⟨b, off + i, none⟩) e).trans (hc i hi).1, (World.frozen?_of_block (a := ⟨b, off + i, none⟩) e).trans (hc i hi).2⟩
set_option maxHeartbeats 4000000 in
set_option maxRecDepth 100000 in
theorem l4DrawTwo_any (a : Option Addr) (len cap : Nat) (w : World) (hr : Row8 w a len) :
    Calls Try.prog 39 #[.slice a len cap] w fun e w' => DrewTwo w.heap.size w' e ∧ Below w.heap.size w w' := by
  have ha : ∀ (w : World) o, Below w.heap.size w (w.alloc o) := fun w o => (Below.refl _ _).alloc (Nat.le_refl _) o
  go_enter Try.func39, Try.ntmps39
  go_wp2_with fail
  have Z0 := TwoZ.fresh w (.slice none 0 0) (.int .i64 0) 26
  have hr0 := hr.below (ha w (.cells #[.slice none 0 0, .int .i64 0] 26))
  have B0 := ha w (.cells #[.slice none 0 0, .int .i64 0] 26)
  have hs0 : (w.alloc (.cells #[.slice none 0 0, .int .i64 0] 26)).heap.size = w.heap.size + 1 := by simp
  refine (l1New_any a len cap _ hr0).mono ?_
  rintro e w1 ⟨bk, rfl, hbk, hc1, b1⟩
  have Z1 := Z0.kept b1
  have B1 := belowThen B0 b1
  have hk1 : w.heap.size + 1 ≤ bk := by omega
  have hl1 := hc1.lt
  clear Z0 B0 hr0 hr b1 hs0 hbk
  go_wp2_with fail
  refine (l4Draw_any bk _ hc1).mono ?_
  rintro e w2 ⟨⟨sv, ds, cop, rfl, o2, hdl, hda, c0, c1⟩, hc2, hd2⟩
  have Z2 : TwoZ w2 w.heap.size w.heap.size (.slice none 0 0) (.int .i64 0) := Z1.drawn hd2 (by omega)
  have B2 := hd2.below B1 B1.size (by omega)
  have hs2 := hd2.size
  obtain ⟨-, sa, scap, rfl, -, -⟩ := id o2
  have X3 := TwoZ.fresh w2 (.slice sa ds.length scap) (.int .i64 cop) 26
  have b3 := ha w2 (.cells #[.slice sa ds.length scap, .int .i64 cop] 26)
  have Z3 := Z2.kept b3
  have o3 := o2.below b3
  have hc3 := hc2.below b3
  have B3 := belowThen B2 b3
  have hs3 : (w2.alloc (.cells #[.slice sa ds.length scap, .int .i64 cop] 26)).heap.size = w2.heap.size + 1 := by simp
  clear Z1 B1 hc1 hd2 Z2 o2 hc2 B2
  go_wp2_with fail
  generalize w2.alloc (.cells #[.slice sa ds.length scap, .int .i64 cop] 26) = w3 at *
  generalize hbx : w2.heap.size = bx at *
  clear hbx b3
  refine (l4DrawNodes_any bk _ ds cop _ hc3 o3.bs hdl).mono ?_
  rintro e w4 ⟨⟨u, xs, rfl, ox4, hxl, hxa⟩, hc4, hd4⟩
  have X4 : TwoZ w4 bx bx (.slice sa ds.length scap) (.int .i64 cop) := X3.drawn hd4 (by omega)
  have Z4 : TwoZ w4 w.heap.size w.heap.size (.slice none 0 0) (.int .i64 0) := Z3.drawn hd4 (by omega)
  have o4 := o3.drawn hd4 (by omega)
  have B4 := hd4.below B3 B3.size (by omega)
  have hs4 := hd4.size
  have OX4 := dHide ox4
  obtain ⟨ua, un, ucap, rfl⟩ := rowN_slice ox4
  clear X3 Z3 o3 hc3 B3 hd4 ox4
  obtain ⟨-, ⟨k0, k1⟩, -⟩ := id X4
  go_wp2_with fail
  refine (l4DrawNodes_any bk _ ds cop _ hc4 o4.bs hdl).mono ?_
  rintro e w5 ⟨⟨v, ys, rfl, oy5, hyl, hya⟩, hc5, hd5⟩
  have X5 : TwoZ w5 bx bx (.slice sa ds.length scap) (.int .i64 cop) := X4.drawn hd5 (by omega)
  have Z5 : TwoZ w5 w.heap.size w.heap.size (.slice none 0 0) (.int .i64 0) := Z4.drawn hd5 (by omega)
  have o5 := o4.drawn hd5 (by omega)
  have ox5 := rowN_drawn (dUnhide OX4) hd5 (by omega)
  have B5 := hd5.below B4 B4.size (by omega)
  have hs5 := hd5.size
  have OY5 := dHide oy5
  obtain ⟨va, vn, vcap, rfl⟩ := rowN_slice oy5
  clear X4 Z4 o4 hc4 B4 hd5 oy5 OX4 k0 k1
  go_wp2_with fail
  refine (l1Once_any bk 2 (by omega) (by omega) _ hc5).mono ?_
  rintro e w6 ⟨⟨bb, rfl⟩, hc6, hd6⟩
  have HX6 := dHide (X5.drawn hd6 (by omega))
  have HZ6 := dHide (Z5.drawn hd6 (by omega))
  have HO6 := dHide (o5.drawn hd6 (by omega))
  have OX6 := dHide (rowN_mono (rowN_drawn ox5 hd6 (by omega)) (show bx + 1 ≤ _ by omega))
  have OY6 := dHide (rowN_mono (rowN_drawn (dUnhide OY5) hd6 (by omega)) (show bx + 1 ≤ _ by omega))
  have HB6 := dHide (hd6.below B5 B5.size (by omega))
  have HC6 := dHide hc6
  have hs6 := hd6.size
  clear X5 Z5 o5 hc5 B5 hd6 ox5 OY5 hc6
  have hun : un = xs.length := rowN_len (dUnhide OX6)
  subst hun
  have hxa' : allInt xs := fun d h => by have := hxa d h; omega
  have hya' : allInt ys := fun d h => by have := hya d h; omega
  have hda' : allInt ds := fun d h => by have := hda d h; omega
  have KX := dHide hxa'
  have KY := dHide hya'
  have KD := dHide hda'
  clear hxa hya hda hxa' hya' hda'
  have hdsl := dHide (dUnhide HO6).bs.lt
  have hxsl := dHide (dUnhide OX6).lt
  cases bb
  · have HX := HX6
    obtain ⟨-, ⟨r0, r1⟩, g0, g1⟩ := id (dUnhide HZ6)
    obtain ⟨-, ⟨k0, k1⟩, -⟩ := id (dUnhide HX)
    go_wp2_with fail
    have hb7 : w.heap.size < bx + 1 := by omega
    have Z7 := ((dUnhide HZ6).put0 (.slice sa ds.length scap)).put1 (.int .i64 cop)
    have C7 : DrewC w.heap.size (.agg #[.slice sa ds.length scap, .int .i64 cop]) ds cop ((w6.setCell ⟨w.heap.size, 0, none⟩ (.slice sa ds.length scap)).setCell ⟨w.heap.size, 1, none⟩ (.int .i64 cop)) := ⟨_, rfl, (((dUnhide HO6).far (b := w.heap.size) (o := 0) (by omega) _).far (b := w.heap.size) (o := 1) (by omega) _).mono (by omega), hdl, dUnhide KD, c0, c1⟩
    have L7 : DrewL w.heap.size (.slice ua xs.length ucap) xs ((w6.setCell ⟨w.heap.size, 0, none⟩ (.slice sa ds.length scap)).setCell ⟨w.heap.size, 1, none⟩ (.int .i64 cop)) := ⟨(((ownN_of_row (dUnhide OX6)).far (b := w.heap.size) (o := 0) hb7 _).far (b := w.heap.size) (o := 1) hb7 _).mono (by omega), hxl, dUnhide KX⟩
    have M7 : DrewL w.heap.size (.slice va vn vcap) ys ((w6.setCell ⟨w.heap.size, 0, none⟩ (.slice sa ds.length scap)).setCell ⟨w.heap.size, 1, none⟩ (.int .i64 cop)) := ⟨(((ownN_of_row (dUnhide OY6)).far (b := w.heap.size) (o := 0) hb7 _).far (b := w.heap.size) (o := 1) hb7 _).mono (by omega), hyl, dUnhide KY⟩
    have B7 := ((dUnhide HB6).setCell (p := ⟨w.heap.size, 0, none⟩) (Nat.le_refl _) (.slice sa ds.length scap)).setCell (p := ⟨w.heap.size, 1, none⟩) (Nat.le_refl _) (.int .i64 cop)
    obtain ⟨-, ⟨e0, e1⟩, -⟩ := Z7
    generalize (w6.setCell ⟨w.heap.size, 0, none⟩ (.slice sa ds.length scap)).setCell ⟨w.heap.size, 1, none⟩ (.int .i64 cop) = V at *
    refine bodyPost_ret (v := .tuple #[.agg #[.slice sa ds.length scap, .int .i64 cop], .slice ua xs.length ucap, .slice va vn vcap]) (by simp [results, Try.results39, go_sem, e0, e1]) rfl ⟨⟨_, _, _, _, _, _, _, rfl, C7, L7, M7⟩, B7⟩
  · clear OY6
    go_wp2
    go_loopw [8, 9] (fun o xi wr => ∃ (k : Nat) (zs : List Int), xi = .int .i64 (k : Int) ∧ k ≤ xs.length ∧ Hid (TwoZ wr bx bx (.slice sa ds.length scap) (.int .i64 cop)) ∧ Hid (TwoZ wr w.heap.size w.heap.size (.slice none 0 0) (.int .i64 0)) ∧ Hid (Cur wr bk) ∧ Hid (OwnN wr (w1.heap.size) (.slice sa ds.length scap) ds) ∧ Hid (wr.ownsRow (bx + 1) 3 1 (.slice ua xs.length ucap) xs.length (ncells xs)) ∧ Hid (wr.ownsRow w6.heap.size 3 1 o zs.length (ncells zs)) ∧ Hid (Below w.heap.size w wr) ∧ w6.heap.size ≤ wr.heap.size ∧ zs.length ≤ k ∧ Hid (∀ z ∈ zs, z ∈ xs)) (fun _ xi _ => xs.length - (intOf xi).toNat)
    case atStart => exact ⟨0, [], rfl, Nat.zero_le _, (dUnhide HX6).kept (ha _ _), (dUnhide HZ6).kept (ha _ _), (dUnhide HC6).below (ha _ _), (dUnhide HO6).below (ha _ _), (dUnhide OX6).alloc _, World.ownsRow_made w6 #[] 0 (Nat.le_refl _) (by decide) (by simp), belowThen (dUnhide HB6) (ha _ _), by simp, by simp, (fun z h => by cases h)⟩
    case round =>
      obtain ⟨k, zs, rfl, hk, HX, HZ, HC, HO, OX, OZ, HB, hsz, hzl, HA⟩ := hrel
      clear HX6 HZ6 HC6 HO6 OX6 HB6
      by_cases hkl : (k : Int) < (xs.length : Int)
      · go_wp2_with fail
        refine (l1Once_any bk 4 (by omega) (by omega) _ (dUnhide HC)).mono ?_
        rintro e w7 ⟨⟨b7, rfl⟩, hc7, hd7⟩
        have HX7 := dHide ((dUnhide HX).drawn hd7 (by omega))
        have HZ7 := dHide ((dUnhide HZ).drawn hd7 (by omega))
        have HO7 := dHide ((dUnhide HO).drawn hd7 (by omega))
        have OX7 := dHide (rowN_drawn (dUnhide OX) hd7 (by omega))
        have OZ7 := dHide (rowN_drawn (dUnhide OZ) hd7 (by omega))
        have HB7 := dHide (hd7.below (dUnhide HB) (dUnhide HB).size (by omega))
        have HC7 := dHide hc7
        have hs7 := hd7.size
        clear HX HZ HC HO OX OZ HB hc7 hd7
        cases b7
        · have hkx : k < xs.length := by omega
          obtain ⟨g, rfl, cg⟩ : ∃ g, ua = some ⟨g, 0, none⟩ ∧ w7.cell? ⟨g, k, none⟩ = some (.int .i64 xs[k]) := rowN_cell (dUnhide OX7) hkx
          have hin : Hid (xs[k] ∈ xs) := List.getElem_mem hkx
          have oz := dUnhide OZ7
          have lz := oz.lt
          generalize xs[k] = x at *
          go_wp2_with (at_builtin; refine appN _ rfl _ _ rfl w6.heap.size _ zs rfl (oz.alloc _) ⟨w7.heap.size, 0, none⟩ 1 1 [x] rfl rfl (one_int _ _ _) ?c3 ?c4 ?_)
          case c3 => (try simp only [List.length_cons, List.length_nil]); omega
          case c4 => simp; omega
          intro v8 w8 o8 r8
          have ba := ha w7 (.cells #[.int .i64 x] 3)
          have hnb : ∀ b, b < w6.heap.size → ¬ Value.ownBlock _ = some b := fun b hb e => by have := (lz b e).1; omega
          have lx := (dUnhide OX7).lt
          have X8 := dHide (((dUnhide HX7).kept ba).grown r8 (hnb bx (by omega)))
          have Z8 := dHide (((dUnhide HZ7).kept ba).grown r8 (hnb w.heap.size (by omega)))
          have C8 : Hid (Cur w8 bk) := ((dUnhide HC7).below ba).grown r8 (fun k hk => by have := (lz k hk).1; omega)
          have O8 : Hid (OwnN w8 w1.heap.size (.slice sa ds.length scap) ds) := by
            refine ((dUnhide HO7).below ba).grown r8 ?_
            rcases dUnhide hdsl with h | h
            · exact .inl h
            · exact .inr (hnb _ h)
          have OX8 : Hid (w8.ownsRow (bx + 1) 3 1 (.slice (some ⟨g, 0, none⟩) xs.length ucap) xs.length (ncells xs)) := ((dUnhide OX7).alloc _).kept r8 (.inr fun e => by have h1 := (dUnhide hxsl g rfl).2; exact hnb g h1 e.symm)
          have B8 : Hid (Below w.heap.size w w8) := (belowThen (dUnhide HB7) ba).grown r8 (by have := (dUnhide HB7).size; simp; omega) (fun k hk => by have := (lz k hk).1; omega)
          have OZ8 := dHide (own_lenN o8)
          have s8 := r8.size
          have HA8 : Hid (∀ z ∈ zs ++ [x], z ∈ xs) := fun z h => by
            rcases List.mem_append.1 h with h1 | h1
            · exact dUnhide HA z h1
            · rw [List.mem_singleton.1 h1]; exact dUnhide hin
          have s8' : w6.heap.size ≤ w8.heap.size := by simp at s8; omega
          clear HX7 HZ7 HC7 HO7 OX7 OZ7 HB7 oz lz o8 r8 ba hnb lx cg s8 HA
          go_wp2
          go_roundw
          case rel => exact ⟨k + 1, zs ++ [x], by go_num, by omega, X8, Z8, C8, O8, OX8, OZ8, B8, s8', by simp; omega, HA8⟩
          case measure => simp [intOf]; omega
        · go_wp2
          go_roundw
          case rel => exact ⟨k + 1, zs, by go_num, by omega, HX7, HZ7, HC7, HO7, OX7, OZ7, HB7, by omega, by omega, HA⟩
          case measure => simp [intOf]; omega
      · have OZ' := dHide (rowN_mono (dUnhide OZ) (show bx + 1 ≤ w6.heap.size by omega))
        obtain ⟨za, zn, zc, hzf⟩ := rowN_slice (dUnhide OZ)
        subst hzf
        have hAy : Hid (allInt zs) := fun d h => dUnhide KX d (dUnhide HA d h)
        obtain ⟨-, ⟨r0, r1⟩, g0, g1⟩ := id (dUnhide HZ)
        obtain ⟨-, ⟨k0, k1⟩, -⟩ := id (dUnhide HX)
        go_wp2_with fail
        have hb7 : w.heap.size < bx + 1 := by omega
        have Z7 := ((dUnhide HZ).put0 (.slice sa ds.length scap)).put1 (.int .i64 cop)
        have C7 : DrewC w.heap.size (.agg #[.slice sa ds.length scap, .int .i64 cop]) ds cop ((wr.setCell ⟨w.heap.size, 0, none⟩ (.slice sa ds.length scap)).setCell ⟨w.heap.size, 1, none⟩ (.int .i64 cop)) := ⟨_, rfl, (((dUnhide HO).far (b := w.heap.size) (o := 0) (by omega) _).far (b := w.heap.size) (o := 1) (by omega) _).mono (by omega), hdl, dUnhide KD, c0, c1⟩
        have L7 : DrewL w.heap.size (.slice ua xs.length ucap) xs ((wr.setCell ⟨w.heap.size, 0, none⟩ (.slice sa ds.length scap)).setCell ⟨w.heap.size, 1, none⟩ (.int .i64 cop)) := ⟨(((ownN_of_row (dUnhide OX)).far (b := w.heap.size) (o := 0) hb7 _).far (b := w.heap.size) (o := 1) hb7 _).mono (by omega), hxl, dUnhide KX⟩
        have M7 : DrewL w.heap.size (.slice za zn zc) zs ((wr.setCell ⟨w.heap.size, 0, none⟩ (.slice sa ds.length scap)).setCell ⟨w.heap.size, 1, none⟩ (.int .i64 cop)) := ⟨(((ownN_of_row (dUnhide OZ')).far (b := w.heap.size) (o := 0) hb7 _).far (b := w.heap.size) (o := 1) hb7 _).mono (by omega), by omega, dUnhide hAy⟩
        have B7 := ((dUnhide HB).setCell (p := ⟨w.heap.size, 0, none⟩) (Nat.le_refl _) (.slice sa ds.length scap)).setCell (p := ⟨w.heap.size, 1, none⟩) (Nat.le_refl _) (.int .i64 cop)
        obtain ⟨-, ⟨e0, e1⟩, -⟩ := Z7
        generalize (wr.setCell ⟨w.heap.size, 0, none⟩ (.slice sa ds.length scap)).setCell ⟨w.heap.size, 1, none⟩ (.int .i64 cop) = V at *
        refine bodyPost_ret (v := .tuple #[.agg #[.slice sa ds.length scap, .int .i64 cop], .slice ua xs.length ucap, .slice za zn zc]) (by simp [results, Try.results39, go_sem, e0, e1]) rfl ⟨⟨_, _, _, _, _, _, _, rfl, C7, L7, M7⟩, B7⟩
end Go.Proofs.Ytgedaaknkhkegaa
