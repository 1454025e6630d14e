/- Readers drawn: DrawReaderNext (printed by tools/mkrnb.py). -/
import Derived.Test.YtjkjmapibcfcdaaGreatRnA
import Derived.Test.YtjkjmapibcfcdaaGreatRgL
import Derived.Test.YtjkjmapibcfcdaaGreatDrawG
import Derived.Test.YtjkjmapibcfcdaaGreatGn1
import Derived.Deep.RegionLaw
import Derived.Deep.RegionHeld3
import Derived.Deep.DeepCutAuto
namespace Go.Proofs.YtjkjmapibcfcdaaGreat
open Go.ChangeShapes Go.WideShapes Go.ChangeAt Go.RowKit
set_option linter.unusedVariables false
set_option linter.unusedSimpArgs false
set_option maxRecDepth 100000

theorem OwnRw.drawnG {α : Type} {sz : Nat} {cl : α → List Value} {lo bk : Nat} {W W' : World} {v : Value} {m : List α} (h : OwnRw sz cl W lo v m) (hd : Drawn bk W W') (hb : bk < lo) : OwnRw sz cl W' lo v m := by
 obtain ⟨h0, a, cap, rfl, h1, h2⟩ := h
 refine ⟨h0, a, cap, rfl, h1, ?_⟩
 rcases h2 with h2 | ⟨b, off, rfl, hbb, hc⟩
 ·exact .inl h2
 ·exact .inr ⟨b, off, rfl, hbb, fun i hi j u hu => ⟨hd.cell (hc i hi j u hu).1 (by omega), (hd.frozen (by omega) (dCell_lt (hc i hi j u hu).1)).trans (hc i hi j u hu).2⟩⟩
theorem rwA_one (w : World) (e : Aw) (T : TypeId) (c : Nat) (hc : 1 ≤ c ∧ c ≤ 9223372036854775807) : Rw 6 Aw.cl (w.alloc (.cells #[.int .i64 e.node, .bool e.has, .int .i64 e.ent.pl, .int .i64 e.ent.wave, .bool e.ent.hole, .string e.ent.data] T)) (.slice (some ⟨w.heap.size, 0, none⟩) 1 c) [e] := by
 refine ⟨by simp, _, _, rfl, by simpa using hc, .inr ⟨w.heap.size, 0, rfl, fun i hi j u hu => ?_⟩⟩
 obtain rfl : i = 0 := by simp at hi; omega
 simp only [List.getElem_cons_zero, Aw.cl] at hu
 simpa using hu
theorem touchA_base {w : World} {base b : Nat} {v : Value} {ms : List Aw} (h : ApR 57 6 Aw.cl w base v ms) (hb : b < base) : touch v ≠ some b := fun e => by have := (h.touched elemAnswer e).1; omega
def fitA (a : Aw) : Prop := fitAw a ∧ a.ent.data.size ≤ 41
def DrawRn (w : World) (e : Ending) (w' : World) : Prop := ∃ (ds : List Int) (cop : Int) (g : Rg) (r : Rr) (sure : Int) (al : List Aw) (ca : Option Addr) (cc : Nat) (ga : Option Addr) (gc : Nat) (ea : Option Addr) (ec : Nat) (la : Option Addr) (lc : Nat), e = .returned (.tuple #[.agg #[.slice ca ds.length cc, .int .i64 cop], .agg #[.slice ga g.eras.length gc, .int .i64 g.trim], .int .i64 sure, .agg #[.int .i64 r.epoch, .int .i64 r.off, .slice ea r.out.length ec], .slice la al.length lc]) ∧ Ns w' (.slice ca ds.length cc) ds ∧ RdRegister (.agg #[.slice ga g.eras.length gc, .int .i64 g.trim]) g w' ∧ RdReader (.agg #[.int .i64 r.epoch, .int .i64 r.off, .slice ea r.out.length ec]) r w' ∧ Rw 6 Aw.cl w' (.slice la al.length lc) al ∧ (ds.length ≤ 9 ∧ allInt ds ∧ 0 ≤ cop ∧ cop ≤ 5) ∧ fitD 40 g ∧ fitR r ∧ (al.length ≤ 10 ∧ ∀ a ∈ al, fitA a) ∧ (0 ≤ sure ∧ sure ≤ 8) ∧ Below w.heap.size w w'
structure AwL (n6 n8 : Nat) (w6 : World) (bk qb : Nat) (ep off : Int) (ev : Value) (W : World) (ov : Value) (al : List Aw) : Prop where
 d : Drawn bk w6 W
 k : Cur W bk
 r : BxZ W n6 qb [.int .i64 ep, .int .i64 off, ev]
 l : ApR 57 6 Aw.cl W n8 ov al
 s : n8 ≤ W.heap.size
 f : ∀ a ∈ al, fitA a
section
variable {n6 n8 : Nat} {w6 W W' : World} {bk qb : Nat} {ep off : Int} {ev ov : Value} {al : List Aw}
theorem AwL.move (h : AwL n6 n8 w6 bk qb ep off ev W ov al) (hq : bk < qb) (hn : bk < n8) (hc : Cur W' bk) (hd : Drawn bk W W') : AwL n6 n8 w6 bk qb ep off ev W' ov al :=
 ⟨h.d.trans hd, hc, h.r.drawn hd (by omega), ApR.kept elemAnswer h.l hd.row (.inr (touchA_base h.l (by omega))), Nat.le_trans h.s hd.size, h.f⟩
theorem AwL.below (h : AwL n6 n8 w6 bk qb ep off ev W ov al) (hq : bk < qb) (hn : bk < n8) (hB : Below W.heap.size W W') : AwL n6 n8 w6 bk qb ep off ev W' ov al := h.move hq hn (h.k.below hB) (Drawn.of_below hB)
theorem AwL.set (h : AwL n6 n8 w6 bk qb ep off ev W ov al) (hq : bk < qb) (hqn : qb < n8) (h6 : w6.heap.size ≤ n8) {b : Nat} (hb : n8 ≤ b) (ht : touch ov ≠ some b) (i : Nat) (v : Value) : AwL n6 n8 w6 bk qb ep off ev (W.setCell ⟨b, i, none⟩ v) ov al :=
 ⟨h.d.setNew (by omega) _ _, h.k.setNew (by omega) _ _, h.r.far (by omega) _, ApR.put elemAnswer h.l ht _, by simpa using h.s, h.f⟩
theorem AwL.push (h : AwL n6 n8 w6 bk qb ep off ev W ov al) (hq : bk < qb) (hqn : qb < n8) (h6 : w6.heap.size ≤ n8) {v : Value} {a : Aw} (ha : fitA a) (P : ApR 57 6 Aw.cl W' n8 v (al ++ [a])) (g : W.grownBy W' (touch ov)) : AwL n6 n8 w6 bk qb ep off ev W' v (al ++ [a]) := by
 have ht : ∀ k, touch ov = some k → n8 ≤ k := fun k hk => (h.l.touched elemAnswer hk).1
 refine ⟨h.d.grown g (fun k hk => by have := ht k hk; omega), h.k.grown g (fun k hk => by have := ht k hk; omega), h.r.grown g (fun e => by have := ht _ e; omega), P, Nat.le_trans h.s g.size, fun x hx => ?_⟩
 rcases List.mem_append.1 hx with hx | hx
 ·exact h.f x hx
 ·obtain rfl : x = a := by simpa using hx
  exact ha
def PreR (n6 : Nat) (w6 : World) (bk qb : Nat) (ep off : Int) (ev : Value) (W : World) : Prop := Drawn bk w6 W ∧ Cur W bk ∧ BxZ W n6 qb [.int .i64 ep, .int .i64 off, ev] ∧ qb + 1 ≤ W.heap.size
theorem PreR.move (h : PreR n6 w6 bk qb ep off ev W) (hq : bk < qb) (hc : Cur W' bk) (hd : Drawn bk W W') : PreR n6 w6 bk qb ep off ev W' := ⟨h.1.trans hd, hc, h.2.2.1.drawn hd (by omega), Nat.le_trans h.2.2.2 hd.size⟩
theorem PreR.set (h : PreR n6 w6 bk qb ep off ev W) (hq : bk < qb) (h6 : w6.heap.size ≤ qb) (x : Int) : PreR n6 w6 bk qb x off ev (W.setCell ⟨qb, 0, none⟩ (.int .i64 x)) := ⟨h.1.setNew h6 _ _, h.2.1.setNew hq _ _, h.2.2.1.put 0 (.int .i64 x), by simpa using h.2.2.2⟩
theorem PreR.aw (h : PreR n6 w6 bk qb ep off ev W) (hq : bk < qb) (n8 : Nat) (hn : n8 ≤ W.heap.size) (hb : Below W.heap.size W W') (a : Option Addr) : AwL n6 n8 w6 bk qb ep off ev W' (.slice a 0 0) [] :=
 ⟨h.1.trans (Drawn.of_below hb), h.2.1.below hb, h.2.2.1.below hb, .inl ⟨rfl, _, rfl⟩, Nat.le_trans hn hb.size, fun e he => by cases he⟩
end
theorem fitA_bare (y : Nat) (hy : y < 10) : fitA ⟨(y : Int) - 1, false, ⟨0, 0, false, ⟨#[]⟩⟩⟩ :=
 ⟨⟨⟨by simp only; omega, by simp only; omega⟩, ⟨by show (-9223372036854775808 : Int) ≤ 0; decide, by show (0 : Int) ≤ 9223372036854775807; decide, by show (-9223372036854775808 : Int) ≤ 0; decide, by show (0 : Int) ≤ 9223372036854775807; decide, by show (0 : Nat) ≤ 9223372036854775807; decide⟩⟩, by show (0 : Nat) ≤ 41; decide⟩
set_option maxHeartbeats 16000000 in
theorem drawReaderNext_any (a : Option Addr) (len cap : Nat) (w : World) (hr : Row8 w a len) :
  Calls Tryz.prog 13 #[.slice a len cap] w (DrawRn w) := by
 have ba : ∀ (w : World) o, Below w.heap.size w (w.alloc o) := fun w o => (Below.refl _ _).alloc (Nat.le_refl _) o
 have b1 := ba w (.cells #[.slice none 0 0, .int .i64 0] 26)
 have b2 := ba (w.alloc (.cells #[.slice none 0 0, .int .i64 0] 26)) (.cells #[.slice none 0 0, .int .i64 0] 42)
 have b3 := ba ((w.alloc (.cells #[.slice none 0 0, .int .i64 0] 26)).alloc (.cells #[.slice none 0 0, .int .i64 0] 42)) (.cells #[.int .i64 0, .int .i64 0, .slice none 0 0] 45)
 have bb := bT (bT b1 b2) b3
 have e1 : (w.alloc (.cells #[.slice none 0 0, .int .i64 0] 26)).heap.size = w.heap.size + 1 := by simp
 have e2 : ((w.alloc (.cells #[.slice none 0 0, .int .i64 0] 26)).alloc (.cells #[.slice none 0 0, .int .i64 0] 42)).heap.size = w.heap.size + 2 := by simp
 have e3 : Hid ((((w.alloc (.cells #[.slice none 0 0, .int .i64 0] 26)).alloc (.cells #[.slice none 0 0, .int .i64 0] 42)).alloc (.cells #[.int .i64 0, .int .i64 0, .slice none 0 0] 45)).heap.size = w.heap.size + 3) := by simp [Hid]
 have Z0 := ((BxZ.new (B := w.heap.size) w [.slice none 0 0, .int .i64 0] 26 (Nat.le_refl _)).below b2).below b3
 have Y0 := (BxZ.new (B := w.heap.size) (w.alloc (.cells #[.slice none 0 0, .int .i64 0] 26)) [.slice none 0 0, .int .i64 0] 42 (by rw [e1]; omega)).below b3
 have X0 := BxZ.new (B := w.heap.size) ((w.alloc (.cells #[.slice none 0 0, .int .i64 0] 26)).alloc (.cells #[.slice none 0 0, .int .i64 0] 42)) [.int .i64 0, .int .i64 0, .slice none 0 0] 45 (by rw [e2]; omega)
 rw [e1] at Y0
 rw [e2] at X0
 have hr0 := hr.below bb
 clear hr b1 b2 b3 e1 e2
 go_enter Tryz.func13, Tryz.ntmps13
 go_wp2_with fail
 generalize ((w.alloc (.cells #[.slice none 0 0, .int .i64 0] 26)).alloc (.cells #[.slice none 0 0, .int .i64 0] 42)).alloc (.cells #[.int .i64 0, .int .i64 0, .slice none 0 0] 45) = w0 at *
 have h0 := dU e3
 refine (l1New_any a len cap w0 hr0).mono ?_
 rintro e w1 ⟨bk, rfl, hbk, hc1, hb1⟩
 have B1 := bT bb hb1
 have Z1 := Z0.below hb1
 have Y1 := Y0.below hb1
 have X1 := X0.below hb1
 have hk1 := hc1.lt
 replace hbk : w.heap.size + 3 ≤ bk := by omega
 clear Z0 Y0 X0 bb hb1 hr0 e3 h0
 go_wp2_with fail
 refine (l4DrawRight_any bk w1 hc1).mono ?_
 rintro e w2 ⟨⟨sv, ds, cop, rfl, O2, ⟨hdl0, hdl⟩, hdd, hc0, hc5⟩, hc2, hd2⟩
 replace O2 := ownN_of_row O2
 obtain ⟨-, ca, cc, rfl, -, -⟩ := O2.bs
 have hblg := O2.ge
 have bA := ba w2 (.cells #[.slice ca ds.length cc, .int .i64 cop] 26)
 have C3 := Bx.new w2 [.slice ca ds.length cc, .int .i64 cop] 26
 have N3 := O2.bs.below bA
 have Z3 := (Z1.drawn hd2 (by omega)).below bA
 have Y3 := (Y1.drawn hd2 (by omega)).below bA
 have X3 := (X1.drawn hd2 (by omega)).below bA
 have B3 := bT (hd2.below B1 B1.size (by omega)) bA
 have hc3 := hc2.below bA
 have hs2 := hd2.size
 have hne : ds = [] ∨ bO (.slice ca ds.length cc) ≠ bk := by rcases hblg with h | h; exact .inl h; exact .inr (by omega)
 have hnb : Hid (∀ b', b' ≤ w.heap.size + 2 → ds = [] ∨ bO (.slice ca ds.length cc) ≠ b') := fun b' hb => by rcases hblg with h | h; exact .inl h; exact .inr (by omega)
 have FD : Hid (ds.length ≤ 9 ∧ allInt ds ∧ 0 ≤ cop ∧ cop ≤ 5) := ⟨by omega, fun d h => by have := hdd d h; omega, by omega, by omega⟩
 have hdl9 : ds.length ≤ 9 := by omega
 have x0 := C3 0 _ rfl
 have x1 := C3 1 _ rfl
 clear O2 bA hc2 hd2 hc1 Z1 Y1 X1 B1 hblg hdd hc0 hc5 hdl hdl0
 go_wp2_with fail
 generalize hcb : w2.heap.size = cb at *
 generalize w2.alloc (.cells #[.slice ca ds.length cc, .int .i64 cop] 26) = w3 at *
 have hcl : cb < w3.heap.size := dCell_lt x0
 refine (l7Draw_any bk ca cc ds cop w3 hc3 N3 hdl9 hne).mono ?_
 rintro e w4 ⟨⟨u4, g, rfl, ⟨rv, rfl, O4⟩, hf4⟩, hc4, hd4⟩
 obtain ⟨ga, gc, rfl⟩ : ∃ ga gc, rv = .slice ga g.eras.length gc := by
  obtain ⟨rs, h1, h2, -⟩ := O4
  obtain ⟨-, a, c, e, -⟩ := h2.rw
  exact ⟨a, c, by rw [e, ← h1, List.length_map]⟩
 have bB := ba w4 (.cells #[.slice ga g.eras.length gc, .int .i64 g.trim] 42)
 have G5 := Bx.new w4 [.slice ga g.eras.length gc, .int .i64 g.trim] 42
 have C5 := (C3.drawn hd4 (by omega)).below bB
 have N5 := (N3.drawn hd4 hne).below bB
 have Z5 := (Z3.drawn hd4 (by omega)).below bB
 have Y5 := (Y3.drawn hd4 (by omega)).below bB
 have X5 := (X3.drawn hd4 (by omega)).below bB
 have O5 := (O4.below bB).mono (lo' := bk + 1) (by omega)
 have B5 := bT (hd4.below B3 B3.size (by omega)) bB
 have hc5' := hc4.below bB
 have hs4 := hd4.size
 have FG := dH hf4
 have hgl : g.eras.length ≤ 40 := hf4.1
 clear x0 x1 C3 N3 Z3 Y3 X3 O4 B3 hc3 hc4 hd4 bB hf4
 go_wp2_with fail
 generalize hrb : w4.heap.size = rb at *
 have s5 : (w4.alloc (.cells #[.slice ga g.eras.length gc, .int .i64 g.trim] 42)).heap.size = w4.heap.size + 1 := by simp
 rw [hrb] at s5
 generalize w4.alloc (.cells #[.slice ga g.eras.length gc, .int .i64 g.trim] 42) = w5 at *
 refine (l10DrawReader_any bk w5 hc5').mono ?_
 rintro e w6 ⟨⟨r, ea, ec, rfl, V6, hf6⟩, hc6, hd6⟩
 obtain ⟨ep, off, out⟩ := r
 simp only at V6
 obtain ⟨hre, hro, hrl, hrf⟩ := hf6
 simp only at hre hro hrl hrf
 have C6 := C5.drawn hd6 (by omega)
 have G6 := G5.drawn hd6 (by omega)
 have N6 := N5.drawn hd6 hne
 have Z6 := Z5.drawn hd6 (by omega)
 have Y6 := Y5.drawn hd6 (by omega)
 have X6 := X5.drawn hd6 (by omega)
 have O6 := O5.drawn hd6 (by omega)
 have B6 := hd6.below B5 B5.size (by omega)
 have hs6 := hd6.size
 have V6' := V6.mono (base' := bk + 1) (by omega)
 clear C5 G5 N5 Z5 Y5 X5 O5 B5 hc5' hd6 V6
 have bQ := ba w6 (.cells #[.int .i64 ep, .int .i64 off, .slice ea out.length ec] 45)
 have R7 := BxZ.new (B := w6.heap.size) w6 [.int .i64 ep, .int .i64 off, .slice ea out.length ec] 45 (Nat.le_refl _)
 have s7 : (w6.alloc (.cells #[.int .i64 ep, .int .i64 off, .slice ea out.length ec] 45)).heap.size = w6.heap.size + 1 := by simp
 have hc7 := hc6.below bQ
 have D7 := Drawn.of_below (bk := bk) bQ
 -- what stands at w6, and moves with whatever is drawn from there on
 have ST : Hid (∀ W, Drawn bk w6 W → (Bx W cb [.slice ca ds.length cc, .int .i64 cop] ∧ Bx W rb [.slice ga g.eras.length gc, .int .i64 g.trim] ∧ Ns W (.slice ca ds.length cc) ds ∧ RdO (bk + 1) (.slice ga g.eras.length gc) g.eras W ∧ OwnRw 3 Ev.cl W (bk + 1) (.slice ea out.length ec) out) ∧ BxZ W w.heap.size w.heap.size [.slice none 0 0, .int .i64 0] ∧ BxZ W w.heap.size (w.heap.size + 1) [.slice none 0 0, .int .i64 0] ∧ BxZ W w.heap.size (w.heap.size + 2) [.int .i64 0, .int .i64 0, .slice none 0 0] ∧ Below w.heap.size w W) := fun W hd =>
  ⟨⟨C6.drawn hd (by omega), G6.drawn hd (by omega), N6.drawn hd hne, O6.drawn hd (by omega), V6'.drawnG hd (by omega)⟩, Z6.drawn hd (by omega), Y6.drawn hd (by omega), X6.drawn hd (by omega), hd.below B6 B6.size (by omega)⟩
 clear C6 G6 N6 Z6 Y6 X6 O6 B6 V6' bQ hc6
 have P7 : Hid (PreR w6.heap.size w6 bk w6.heap.size ep off (.slice ea out.length ec) (w6.alloc (.cells #[.int .i64 ep, .int .i64 off, .slice ea out.length ec] 45))) := ⟨D7, hc7, R7, by rw [s7]; omega⟩
 clear R7 hc7 D7
 go_upto_region 5 with fail
 generalize w6.alloc (.cells #[.int .i64 ep, .int .i64 off, .slice ea out.length ec] 45) = w7 at *
 generalize hqb : w6.heap.size = qb at *
 have hbq : bk < qb := by omega
 go_cut [31] (fun s31 wx => ∃ b : Bool, s31 = .bool b ∧ Hid (b = true → 0 < g.eras.length) ∧ Hid (PreR qb w6 bk qb ep off (.slice ea out.length ec) wx))
 case first =>
  have gq0 := (dU ST w7 (dU P7).1).1.2.1 0 _ rfl
  by_cases hg0 : (0 : Int) < (g.eras.length : Int)
  ·have CO := dH (l1Once_any bk 4 (by omega) (by omega) w7 (dU P7).2.1)
   go_wp2_with fail
   refine (dU CO).mono ?_
   rintro e w8 ⟨⟨b8, rfl⟩, hc8, hd8⟩
   have P8 := dH ((dU P7).move hbq hc8 hd8)
   have HG : Hid ((!b8) = true → 0 < g.eras.length) := fun _ => by omega
   clear CO hc8 hd8 gq0 P7
   go_wp2_with fail
   go_meet
   case rel => exact ⟨!b8, rfl, HG, P8⟩
  ·go_wp2_with fail
   go_meet
   case rel => exact ⟨false, rfl, (fun h => by cases h), P7⟩
 case rest =>
  clear P7
  obtain ⟨b, rfl, HG, P8⟩ := hcut
  generalize wc = w8 at *
  go_upto_if 31 with fail
  go_cut [31] (fun s31 wx => ∃ ep' : Int, (0 ≤ ep' ∧ ep' ≤ 40) ∧ Hid (PreR qb w6 bk qb ep' off (.slice ea out.length ec) wx))
  case first =>
   cases b
   ·go_wp2_with fail
    go_meet
    case rel => exact ⟨ep, hre, P8⟩
   ·have hg0 : 0 < g.eras.length := dU HG rfl
    have gq0 := (dU ST w8 (dU P8).1).1.2.1 0 _ rfl
    have CB := dH (l1Below_any bk g.eras.length hg0 (by omega) w8 (dU P8).2.1)
    clear HG
    go_wp2_with fail
    refine (dU CB).mono ?_
    rintro e w9 ⟨⟨x, hx, rfl⟩, hc9, hd9⟩
    have P9 := (dU P8).move hbq hc9 hd9
    obtain ⟨r0, f0⟩ := P9.2.2.1.2 0 _ rfl
    have hwx : IntKind.i64.wrap (1 + (x : Int)) = 1 + (x : Int) := by rw [IntKind.wrap_i64]; omega
    have P10 := dH (P9.set hbq (by omega) (1 + (x : Int)))
    clear CB hc9 hd9 gq0 P8 P9
    go_wp2_with fail
    go_meet
    case rel => exact ⟨1 + (x : Int), by omega, P10⟩
  case rest =>
   clear P8 HG
   obtain ⟨ep, hre, P8⟩ := hcut
   generalize wc = w8 at *
   have s8 := (dU P8).2.2.2
   have bE := ba w8 (.cells #[] 57)
   have L9 := dH ((dU P8).aw hbq w8.heap.size (by omega) bE (some ⟨w8.heap.size, 0, none⟩))
   clear P8
   go_wp2_with fail
   generalize hn8 : w8.heap.size = n8 at *
   generalize w8.alloc (.cells #[] 57) = w9 at *
   clear bE
   have hqn : qb < n8 := by omega
   have hbn : bk < n8 := by omega
   have h6n : w6.heap.size ≤ n8 := by omega
   go_loopw [11, 12] (fun ov xv wr => ∃ (k : Nat) (al : List Aw), xv = .int .i64 (k : Int) ∧ k ≤ ds.length ∧ al.length ≤ k ∧ Hid (AwL qb n8 w6 bk qb ep off (.slice ea out.length ec) wr ov al)) (fun _ xv _ => ds.length - (intOf xv).toNat)
   case atStart => exact ⟨0, [], rfl, by omega, Nat.le_refl _, L9⟩
   case round =>
    clear L9
    obtain ⟨k, al, rfl, hkd, hak, HD⟩ := hrel
    obtain ⟨la, lc, rfl⟩ := ApR.slice elemAnswer (dU HD).l
    have cq0 := (dU ST wr (dU HD).d).1.1 0 _ rfl
    by_cases hlt : (k : Int) < (ds.length : Int)
    ·have CO := dH (l1Once_any bk 5 (by omega) (by omega) wr (dU HD).k)
     go_wp2_with fail
     refine (dU CO).mono ?_
     rintro e w10 ⟨⟨b10, rfl⟩, hc10, hd10⟩
     have HD10 := dH ((dU HD).move hbq hbn hc10 hd10)
     clear CO HD hc10 hd10 cq0
     cases b10
     case true =>
      go_wp2
      go_roundw
      case rel => exact ⟨k + 1, al, by go_num, by omega, by omega, HD10⟩
      case measure => simp [intOf]; omega
     case false =>
      have CH := dH (l1Once_any bk 2 (by omega) (by omega) w10 (dU HD10).k)
      go_wp2_with fail
      refine (dU CH).mono ?_
      rintro e w11 ⟨⟨hs, rfl⟩, hc11, hd11⟩
      have HD11 := dH ((dU HD10).move hbq hbn hc11 hd11)
      have CD := dH (l3Draw_any bk w11 hc11)
      clear CH HD10 hc11 hd11
      go_wp2_with fail
      refine (dU CD).mono ?_
      rintro e w12 ⟨⟨y, hyf, rfl⟩, hc12, hd12⟩
      have D12 := (dU HD11).move hbq hbn hc12 hd12
      clear CD HD11 hc12 hd12
      obtain ⟨yp, yw, yh, yt⟩ := y
      have hbe : n8 ≤ w12.heap.size := D12.s
      have HTB : Hid (touch (.slice la al.length lc) ≠ some w12.heap.size) := fun e => by have := (D12.l.touched elemAnswer e).2; omega
      have E13 := dH (BxZ.new (B := n8) w12 [.int .i64 (k : Int), .bool hs, .int .i64 yp, .int .i64 yw, .bool yh, .string yt] 57 hbe)
      have HD13 := dH (D12.below hbq hbn (ba w12 (.cells #[.int .i64 (k : Int), .bool hs, .int .i64 yp, .int .i64 yw, .bool yh, .string yt] 57)))
      have HYF := dH hyf
      have hkn : okInt (k : Int) := ⟨by omega, by omega⟩
      clear D12 hyf
      unfold Ent.val
      go_upto_region 13 with fail
      generalize w12.alloc (.cells #[.int .i64 (k : Int), .bool hs, .int .i64 yp, .int .i64 yw, .bool yh, .string yt] 57) = w13 at *
      generalize w12.heap.size = ab at *
      have hab : ab ≠ bk := by omega
      go_cut [63] (fun s63 wx => ∃ b : Bool, s63 = .bool b ∧ Hid (AwL qb n8 w6 bk qb ep off (.slice ea out.length ec) wx (.slice la al.length lc) al) ∧ Hid (BxZ wx n8 ab [.int .i64 (k : Int), .bool hs, .int .i64 yp, .int .i64 yw, .bool yh, .string yt]))
      case first =>
       have p2 := ((dU E13).2 2 _ rfl).1
       by_cases hpl : isPl yp
       ·have CK := dH (specOk_yes yp hpl w13)
        have CO6 := dH (l1Once_any bk 6 (by omega) (by omega) w13 (dU HD13).k)
        clear hpl
        go_wp2_with fail
        refine (dU CK).mono ?_
        rintro e w14 ⟨rfl, rfl⟩
        go_wp2_with fail
        refine (dU CO6).mono ?_
        rintro e w14 ⟨⟨b14, rfl⟩, hc14, hd14⟩
        have HD14 := dH ((dU HD13).move hbq hbn hc14 hd14)
        have HE14 := dH ((dU E13).drawn hd14 hab)
        clear CK CO6 HD13 E13 hc14 hd14 p2
        go_wp2_with fail
        go_meet
        case rel => exact ⟨!b14, rfl, HD14, HE14⟩
       ·have CK := dH (specOk_no yp (dU HYF).1.2.1 hpl w13)
        clear hpl
        go_wp2_with fail
        refine (dU CK).mono ?_
        rintro e w14 ⟨rfl, rfl⟩
        go_wp2_with fail
        go_meet
        case rel => exact ⟨false, rfl, HD13, E13⟩
      case rest =>
       clear HD13 E13
       obtain ⟨b, rfl, HD14, HE14⟩ := hcut
       generalize wc = w14 at *
       go_upto_if 63 with fail
       go_cut [63] (fun s63 wx => ∃ zp : Int, Hid ((⟨zp, yw, yh, yt⟩ : Ent).fits ∧ yt.size ≤ 41) ∧ Hid (AwL qb n8 w6 bk qb ep off (.slice ea out.length ec) wx (.slice la al.length lc) al) ∧ Hid (BxZ wx n8 ab [.int .i64 (k : Int), .bool hs, .int .i64 zp, .int .i64 yw, .bool yh, .string yt]))
       case first =>
        cases b
        ·go_wp2_with fail
         go_meet
         case rel => exact ⟨yp, HYF, HD14, HE14⟩
        ·have CL1 := dH (l1Place_in ep off (by omega) (by omega) (by omega) (by omega) w14)
         obtain ⟨p2, g2⟩ := (dU HE14).2 2 _ rfl
         have r0 := ((dU HD14).r.2 0 _ rfl).1
         have r1 := ((dU HD14).r.2 1 _ rfl).1
         have HD15 := dH ((dU HD14).set hbq hqn h6n hbe (dU HTB) 2 (.int .i64 (4294967296 * ep + off)))
         have HE15 := dH ((dU HE14).put 2 (.int .i64 (4294967296 * ep + off)))
         have HZF : Hid ((⟨4294967296 * ep + off, yw, yh, yt⟩ : Ent).fits ∧ yt.size ≤ 41) := ⟨⟨by simp only; omega, by simp only; omega, (dU HYF).1.2.2⟩, (dU HYF).2⟩
         clear HD14 HE14
         go_wp2_with fail
         refine (dU CL1).mono ?_
         rintro e w15 ⟨rfl, rfl⟩
         clear CL1
         go_wp2_with fail
         go_meet
         case rel => exact ⟨_, HZF, HD15, HE15⟩
       case rest =>
        clear HD14 HE14 HYF
        obtain ⟨zp, HZF, HD14, HE14⟩ := hcut
        generalize wc = w15 at *
        obtain ⟨q0, -⟩ := (dU HE14).2 0 _ rfl
        obtain ⟨q1, -⟩ := (dU HE14).2 1 _ rfl
        obtain ⟨q2, -⟩ := (dU HE14).2 2 _ rfl
        obtain ⟨q3, -⟩ := (dU HE14).2 3 _ rfl
        obtain ⟨q4, -⟩ := (dU HE14).2 4 _ rfl
        obtain ⟨q5, -⟩ := (dU HE14).2 5 _ rfl
        have D16 := (dU HD14).below hbq hbn (ba w15 (.cells #[.int .i64 (k : Int), .bool hs, .int .i64 zp, .int .i64 yw, .bool yh, .string yt] 57))
        have RO := dH (rwA_one w15 ⟨(k : Int), hs, ⟨zp, yw, yh, yt⟩⟩ 57 1 (by omega))
        have HR2 := dH D16.l
        have hs2 := (dU HD14).s
        have HD16 := dH D16
        clear D16
        go_wp2_with (at_builtin; refine wp_apR elemAnswer rfl _ _ rfl n8 (.slice la al.length lc) al rfl (dU HR2) _ [⟨(k : Int), hs, ⟨zp, yw, yh, yt⟩⟩] rfl (dU RO) ?c1 ?c2 ?c3 ?_)
        case c1 => (try simp); omega
        case c2 => (try simp); omega
        case c3 => (try simp); omega
        intro v4 w4' P4 g4 t4
        have HD5 := dH ((dU HD16).push hbq hqn h6n (a := ⟨(k : Int), hs, ⟨zp, yw, yh, yt⟩⟩) ⟨⟨⟨hkn.1, hkn.2⟩, (dU HZF).1⟩, (dU HZF).2⟩ P4 (by simpa using g4))
        have hl4 : Hid ((al ++ [(⟨(k : Int), hs, ⟨zp, yw, yh, yt⟩⟩ : Aw)]).length ≤ k + 1) := by rw [Hid, List.length_append]; simp only [List.length_singleton]; omega
        generalize al ++ [(⟨(k : Int), hs, ⟨zp, yw, yh, yt⟩⟩ : Aw)] = AL at *
        clear P4 g4 t4 HD16 HR2 RO hs2 HD14 HE14 q0 q1 q2 q3 q4 q5
        go_wp2
        go_roundw
        case rel => exact ⟨k + 1, AL, by go_num, by omega, dU hl4, HD5⟩
        case measure => simp [intOf]; omega
    ·have CO := dH (l1Once_any bk 15 (by omega) (by omega) wr (dU HD).k)
     go_wp2_with fail
     refine (dU CO).mono ?_
     rintro e w16 ⟨⟨b16, rfl⟩, hc16, hd16⟩
     have HD16 := dH ((dU HD).move hbq hbn hc16 hd16)
     have hal : al.length ≤ 9 := by omega
     clear CO HD hc16 hd16 cq0 hak hkd hlt
     go_upto_if 76 with fail
     go_cut [11] (fun ov wx => ∃ (al : List Aw) (la : Option Addr) (lc : Nat), ov = .slice la al.length lc ∧ al.length ≤ 10 ∧ Hid (AwL qb n8 w6 bk qb ep off (.slice ea out.length ec) wx (.slice la al.length lc) al))
     case first =>
      cases b16
      ·go_wp2_with fail
       go_meet
       case rel => exact ⟨al, la, lc, rfl, by omega, HD16⟩
      ·have CB := dH (l1Below_any bk 10 (by omega) (by omega) w16 (dU HD16).k)
       go_wp2_with fail
       refine (dU CB).mono ?_
       rintro e w17 ⟨⟨y, hy, rfl⟩, hc17, hd17⟩
       have D17 := (dU HD16).move hbq hbn hc17 hd17
       have hw1 : wrap64 ((y : Int) - 1) = (y : Int) - 1 := by unfold wrap64; omega
       have hs2 := D17.s
       have D18 := D17.below hbq hbn (ba w17 (.cells #[.int .i64 ((y : Int) - 1), .bool false, .int .i64 0, .int .i64 0, .bool false, .string ⟨#[]⟩] 57))
       have RO := dH (rwA_one w17 ⟨(y : Int) - 1, false, ⟨0, 0, false, ⟨#[]⟩⟩⟩ 57 1 (by omega))
       have HR2 := dH D18.l
       have HD18 := dH D18
       clear CB HD16 hc17 hd17 D17 D18
       go_wp2_with (at_builtin; refine wp_apR elemAnswer rfl _ _ rfl n8 (.slice la al.length lc) al rfl (dU HR2) _ [⟨(y : Int) - 1, false, ⟨0, 0, false, ⟨#[]⟩⟩⟩] rfl (dU RO) ?c1 ?c2 ?c3 ?_)
       case c1 => (try simp); omega
       case c2 => (try simp); omega
       case c3 => (try simp); omega
       intro v4 w4' P4 g4 t4
       have D5 := (dU HD18).push hbq hqn h6n (a := ⟨(y : Int) - 1, false, ⟨0, 0, false, ⟨#[]⟩⟩⟩) (fitA_bare y hy) P4 (by simpa using g4)
       have hl4 : (al ++ [(⟨(y : Int) - 1, false, ⟨0, 0, false, ⟨#[]⟩⟩⟩ : Aw)]).length ≤ 10 := by rw [List.length_append]; simp only [List.length_singleton]; omega
       generalize al ++ [(⟨(y : Int) - 1, false, ⟨0, 0, false, ⟨#[]⟩⟩⟩ : Aw)] = AL at *
       obtain ⟨la', lc', rfl⟩ := ApR.slice elemAnswer D5.l
       have HD5 := dH D5
       clear P4 g4 t4 HD18 HR2 RO hs2 hw1 D5
       go_wp2
       go_meet
       case rel => exact ⟨AL, la', lc', rfl, hl4, HD5⟩
     case rest =>
      clear HD16 hal
      obtain ⟨al, la, lc, rfl, hal, HD⟩ := hcut
      generalize wc = wz at *
      have FR : Hid (fitR ⟨ep, off, out⟩) := ⟨hre, hro, hrl, hrf⟩
      have FA : Hid (al.length ≤ 10 ∧ ∀ a ∈ al, fitA a) := ⟨hal, (dU HD).f⟩
      have St := dU ST wz (dU HD).d
      have Rz := (dU HD).r.bx
      have pt : (wz.cell? ⟨cb, 0, none⟩ = some (.slice ca ds.length cc) ∧ wz.cell? ⟨cb, 1, none⟩ = some (.int .i64 cop)) ∧ (wz.cell? ⟨rb, 0, none⟩ = some (.slice ga g.eras.length gc) ∧ wz.cell? ⟨rb, 1, none⟩ = some (.int .i64 g.trim)) ∧ wz.cell? ⟨qb, 0, none⟩ = some (.int .i64 ep) ∧ wz.cell? ⟨qb, 1, none⟩ = some (.int .i64 off) ∧ wz.cell? ⟨qb, 2, none⟩ = some (.slice ea out.length ec) := ⟨⟨St.1.1 0 _ rfl, St.1.1 1 _ rfl⟩, ⟨St.1.2.1 0 _ rfl, St.1.2.1 1 _ rfl⟩, Rz 0 _ rfl, Rz 1 _ rfl, Rz 2 _ rfl⟩
      have bdr : Below wz.heap.size wz wz.drew := (Below.refl _ _).drew
      have Cc := St.1.1.below bdr
      have Gc := St.1.2.1.below bdr
      have Rc := Rz.below bdr
      have Nd := St.1.2.2.1.below bdr
      have Od := St.1.2.2.2.1.below bdr
      have Vd := St.1.2.2.2.2.below bdr
      have Zd := St.2.1.below bdr
      have Yd := St.2.2.1.below bdr
      have Xd := St.2.2.2.1.below bdr
      have Bd := bT St.2.2.2.2 bdr
      have Ad := (ApR.own elemAnswer (dU HD).l).below bdr
      have Kd := (dU HD).k.below bdr
      clear St Rz HD bdr ST
      go_wp2_with fail
      refine wp_region_noPanic ?_
      refine wp_region_held_drew (S := fun W => (W.cell? ⟨cb, 0, none⟩ = some (.slice ca ds.length cc) ∧ W.cell? ⟨cb, 1, none⟩ = some (.int .i64 cop)) ∧ (W.cell? ⟨rb, 0, none⟩ = some (.slice ga g.eras.length gc) ∧ W.cell? ⟨rb, 1, none⟩ = some (.int .i64 g.trim)) ∧ W.cell? ⟨qb, 0, none⟩ = some (.int .i64 ep) ∧ W.cell? ⟨qb, 1, none⟩ = some (.int .i64 off) ∧ W.cell? ⟨qb, 2, none⟩ = some (.slice ea out.length ec)) (by kernel_rfl) (by first | exact ⟨⟨Cc 0 _ rfl, Cc 1 _ rfl⟩, ⟨Gc 0 _ rfl, Gc 1 _ rfl⟩, Rc 0 _ rfl, Rc 1 _ rfl, Rc 2 _ rfl⟩ | exact pt | go_keep) (fun hHeld => ?_)
      generalize wz.drew = wd at *
      refine tY 0 (v := ?_) rfl (by kernel_rfl) (.inl ⟨by rfl, ?_⟩) ‹_› ?_
      rotate_left 1
      ·intro w hSw
       (try dsimp only at hSw)
       first | (go_simp; done) | (go_simp; with_reducible rfl)
      try simp only [Act.put, sA, sB, sC]
      refine tY 1 (v := ?_) rfl (by kernel_rfl) (.inl ⟨by rfl, ?_⟩) ‹_› ?_
      rotate_left 1
      ·intro w hSw
       (try dsimp only at hSw)
       first | (go_simp; done) | (go_simp; with_reducible rfl)
      try simp only [Act.put, sA, sB, sC]
      refine tY 2 (v := ?_) rfl (by kernel_rfl) (.inl ⟨by rfl, ?_⟩) ‹_› ?_
      rotate_left 1
      ·intro w hSw
       (try dsimp only at hSw)
       first | (go_simp; done) | (go_simp; with_reducible rfl)
      try simp only [Act.put, sA, sB, sC]
      refine tY 4 (v := ?_) rfl (by kernel_rfl) (.inl ⟨by rfl, ?_⟩) ‹_› ?_
      rotate_left 1
      ·intro w hSw
       (try dsimp only at hSw)
       first | (go_simp; done) | (go_simp; with_reducible rfl)
      try simp only [Act.put, sA, sB, sC]
      refine tY 5 (v := ?_) rfl (by kernel_rfl) (.inl ⟨by rfl, ?_⟩) ‹_› ?_
      rotate_left 1
      ·intro w hSw
       (try dsimp only at hSw)
       first | (go_simp; done) | (go_simp; with_reducible rfl)
      try simp only [Act.put, sA, sB, sC]
      refine wpAnyH_ready (rs := [3]) (by kernel_rfl) (by simp) ?_
      refine rC rfl (fun K hK => ?_) AllReadyH.nil
      go_simp
      have CPx := l1Below_any bk 8 (by omega) (by omega) wd Kd
      refine CPx.mono ?_
      rintro e wd' ⟨⟨p2, hp2, rfl⟩, Kd', hdd'⟩
      replace Cc := Cc.drawn hdd' (by omega)
      replace Gc := Gc.drawn hdd' (by omega)
      replace Rc := Rc.drawn hdd' (by omega)
      replace Zd := Zd.drawn hdd' (by omega)
      replace Yd := Yd.drawn hdd' (by omega)
      replace Xd := Xd.drawn hdd' (by omega)
      replace Nd := Nd.drawn hdd' hne
      replace Od := Od.drawn hdd' (by omega)
      replace Vd := Vd.drawnG hdd' (by omega)
      replace Ad := Ad.drawnG hdd' (by omega)
      replace Bd := hdd'.below Bd Bd.size (by omega)
      clear hdd' CPx Kd Kd'
      generalize wd' = wd at *
      (try go_wp2_with fail)
      refine hK.out _ _ (by first | exact ⟨⟨Cc 0 _ rfl, Cc 1 _ rfl⟩, ⟨Gc 0 _ rfl, Gc 1 _ rfl⟩, Rc 0 _ rfl, Rc 1 _ rfl, Rc 2 _ rfl⟩ | exact pt | go_keep) (fun hHeld => ?_)
      clear hK K
      try simp only [Act.put, sA, sB, sC]
      refine wpAnyH_ready (rs := [6]) (by kernel_rfl) (by simp) ?_
      refine rC rfl (fun K hK => ?_) AllReadyH.nil
      obtain ⟨⟨z0, f0⟩, ⟨z1, f1⟩⟩ : (_ ∧ _) ∧ (_ ∧ _) := ⟨Zd.2 0 _ rfl, Zd.2 1 _ rfl⟩
      go_simp
      replace Zd := ((Zd.put 0 (.slice ca ds.length cc)).put 1 (.int .i64 cop))
      replace Yd := ((Yd.far (b' := w.heap.size) (o := 0) (by omega) (.slice ca ds.length cc)).far (b' := w.heap.size) (o := 1) (by omega) (.int .i64 cop))
      replace Xd := ((Xd.far (b' := w.heap.size) (o := 0) (by omega) (.slice ca ds.length cc)).far (b' := w.heap.size) (o := 1) (by omega) (.int .i64 cop))
      replace Cc := ((Cc.farB (b' := w.heap.size) (o := 0) (by omega) (.slice ca ds.length cc)).farB (b' := w.heap.size) (o := 1) (by omega) (.int .i64 cop))
      replace Gc := ((Gc.farB (b' := w.heap.size) (o := 0) (by omega) (.slice ca ds.length cc)).farB (b' := w.heap.size) (o := 1) (by omega) (.int .i64 cop))
      replace Rc := ((Rc.farB (b' := w.heap.size) (o := 0) (by omega) (.slice ca ds.length cc)).farB (b' := w.heap.size) (o := 1) (by omega) (.int .i64 cop))
      replace Nd := (Ns.setFar7 (b' := w.heap.size) (o := 1) (Ns.setFar7 (b' := w.heap.size) (o := 0) Nd (dU hnb _ (by omega)) (.slice ca ds.length cc)) (dU hnb _ (by omega)) (.int .i64 cop))
      replace Od := ((Od.far (b := w.heap.size) (o := 0) (by omega) (.slice ca ds.length cc)).far (b := w.heap.size) (o := 1) (by omega) (.int .i64 cop))
      replace Vd := ((Vd.farZ (b' := w.heap.size) (o := 0) (by omega) (.slice ca ds.length cc)).farZ (b' := w.heap.size) (o := 1) (by omega) (.int .i64 cop))
      replace Ad := ((Ad.farZ (b' := w.heap.size) (o := 0) (by omega) (.slice ca ds.length cc)).farZ (b' := w.heap.size) (o := 1) (by omega) (.int .i64 cop))
      replace Bd := ((Bd.setCell (p := ⟨w.heap.size, 0, none⟩) (by simp) (.slice ca ds.length cc)).setCell (p := ⟨w.heap.size, 1, none⟩) (by simp) (.int .i64 cop))
      clear z0 f0 z1 f1
      generalize ((wd.setCell ⟨w.heap.size, 0, none⟩ (.slice ca ds.length cc)).setCell ⟨w.heap.size, 1, none⟩ (.int .i64 cop)) = wd at *
      refine hK.out _ _ (by first | exact ⟨⟨Cc 0 _ rfl, Cc 1 _ rfl⟩, ⟨Gc 0 _ rfl, Gc 1 _ rfl⟩, Rc 0 _ rfl, Rc 1 _ rfl, Rc 2 _ rfl⟩ | exact pt | go_keep) (fun hHeld => ?_)
      clear hK K
      try simp only [Act.put, sA, sB, sC]
      refine wpAnyH_ready (rs := [7]) (by kernel_rfl) (by simp) ?_
      refine rC rfl (fun K hK => ?_) AllReadyH.nil
      obtain ⟨⟨z0, f0⟩, ⟨z1, f1⟩⟩ : (_ ∧ _) ∧ (_ ∧ _) := ⟨Yd.2 0 _ rfl, Yd.2 1 _ rfl⟩
      go_simp
      replace Yd := ((Yd.put 0 (.slice ga g.eras.length gc)).put 1 (.int .i64 g.trim))
      replace Zd := ((Zd.far (b' := w.heap.size + 1) (o := 0) (by omega) (.slice ga g.eras.length gc)).far (b' := w.heap.size + 1) (o := 1) (by omega) (.int .i64 g.trim))
      replace Xd := ((Xd.far (b' := w.heap.size + 1) (o := 0) (by omega) (.slice ga g.eras.length gc)).far (b' := w.heap.size + 1) (o := 1) (by omega) (.int .i64 g.trim))
      replace Cc := ((Cc.farB (b' := w.heap.size + 1) (o := 0) (by omega) (.slice ga g.eras.length gc)).farB (b' := w.heap.size + 1) (o := 1) (by omega) (.int .i64 g.trim))
      replace Gc := ((Gc.farB (b' := w.heap.size + 1) (o := 0) (by omega) (.slice ga g.eras.length gc)).farB (b' := w.heap.size + 1) (o := 1) (by omega) (.int .i64 g.trim))
      replace Rc := ((Rc.farB (b' := w.heap.size + 1) (o := 0) (by omega) (.slice ga g.eras.length gc)).farB (b' := w.heap.size + 1) (o := 1) (by omega) (.int .i64 g.trim))
      replace Nd := (Ns.setFar7 (b' := w.heap.size + 1) (o := 1) (Ns.setFar7 (b' := w.heap.size + 1) (o := 0) Nd (dU hnb _ (by omega)) (.slice ga g.eras.length gc)) (dU hnb _ (by omega)) (.int .i64 g.trim))
      replace Od := ((Od.far (b := w.heap.size + 1) (o := 0) (by omega) (.slice ga g.eras.length gc)).far (b := w.heap.size + 1) (o := 1) (by omega) (.int .i64 g.trim))
      replace Vd := ((Vd.farZ (b' := w.heap.size + 1) (o := 0) (by omega) (.slice ga g.eras.length gc)).farZ (b' := w.heap.size + 1) (o := 1) (by omega) (.int .i64 g.trim))
      replace Ad := ((Ad.farZ (b' := w.heap.size + 1) (o := 0) (by omega) (.slice ga g.eras.length gc)).farZ (b' := w.heap.size + 1) (o := 1) (by omega) (.int .i64 g.trim))
      replace Bd := ((Bd.setCell (p := ⟨w.heap.size + 1, 0, none⟩) (by simp) (.slice ga g.eras.length gc)).setCell (p := ⟨w.heap.size + 1, 1, none⟩) (by simp) (.int .i64 g.trim))
      clear z0 f0 z1 f1
      generalize ((wd.setCell ⟨w.heap.size + 1, 0, none⟩ (.slice ga g.eras.length gc)).setCell ⟨w.heap.size + 1, 1, none⟩ (.int .i64 g.trim)) = wd at *
      refine hK.out _ _ (by first | exact ⟨⟨Cc 0 _ rfl, Cc 1 _ rfl⟩, ⟨Gc 0 _ rfl, Gc 1 _ rfl⟩, Rc 0 _ rfl, Rc 1 _ rfl, Rc 2 _ rfl⟩ | exact pt | go_keep) (fun hHeld => ?_)
      clear hK K
      try simp only [Act.put, sA, sB, sC]
      refine tY 8 (v := ?_) rfl (by kernel_rfl) (.inl ⟨by rfl, ?_⟩) ‹_› ?_
      rotate_left 1
      ·intro w hSw
       (try dsimp only at hSw)
       first | (go_simp; done) | (go_simp; with_reducible rfl)
      try simp only [Act.put, sA, sB, sC]
      refine wpAnyH_ready (rs := [9]) (by kernel_rfl) (by simp) ?_
      refine rC rfl (fun K hK => ?_) AllReadyH.nil
      obtain ⟨⟨z0, f0⟩, ⟨z1, f1⟩, ⟨z2, f2⟩⟩ : (_ ∧ _) ∧ (_ ∧ _) ∧ (_ ∧ _) := ⟨Xd.2 0 _ rfl, Xd.2 1 _ rfl, Xd.2 2 _ rfl⟩
      go_simp
      replace Xd := (((Xd.put 0 (.int .i64 ep)).put 1 (.int .i64 off)).put 2 (.slice ea out.length ec))
      replace Zd := (((Zd.far (b' := w.heap.size + 2) (o := 0) (by omega) (.int .i64 ep)).far (b' := w.heap.size + 2) (o := 1) (by omega) (.int .i64 off)).far (b' := w.heap.size + 2) (o := 2) (by omega) (.slice ea out.length ec))
      replace Yd := (((Yd.far (b' := w.heap.size + 2) (o := 0) (by omega) (.int .i64 ep)).far (b' := w.heap.size + 2) (o := 1) (by omega) (.int .i64 off)).far (b' := w.heap.size + 2) (o := 2) (by omega) (.slice ea out.length ec))
      replace Cc := (((Cc.farB (b' := w.heap.size + 2) (o := 0) (by omega) (.int .i64 ep)).farB (b' := w.heap.size + 2) (o := 1) (by omega) (.int .i64 off)).farB (b' := w.heap.size + 2) (o := 2) (by omega) (.slice ea out.length ec))
      replace Gc := (((Gc.farB (b' := w.heap.size + 2) (o := 0) (by omega) (.int .i64 ep)).farB (b' := w.heap.size + 2) (o := 1) (by omega) (.int .i64 off)).farB (b' := w.heap.size + 2) (o := 2) (by omega) (.slice ea out.length ec))
      replace Rc := (((Rc.farB (b' := w.heap.size + 2) (o := 0) (by omega) (.int .i64 ep)).farB (b' := w.heap.size + 2) (o := 1) (by omega) (.int .i64 off)).farB (b' := w.heap.size + 2) (o := 2) (by omega) (.slice ea out.length ec))
      replace Nd := (Ns.setFar7 (b' := w.heap.size + 2) (o := 2) (Ns.setFar7 (b' := w.heap.size + 2) (o := 1) (Ns.setFar7 (b' := w.heap.size + 2) (o := 0) Nd (dU hnb _ (by omega)) (.int .i64 ep)) (dU hnb _ (by omega)) (.int .i64 off)) (dU hnb _ (by omega)) (.slice ea out.length ec))
      replace Od := (((Od.far (b := w.heap.size + 2) (o := 0) (by omega) (.int .i64 ep)).far (b := w.heap.size + 2) (o := 1) (by omega) (.int .i64 off)).far (b := w.heap.size + 2) (o := 2) (by omega) (.slice ea out.length ec))
      replace Vd := (((Vd.farZ (b' := w.heap.size + 2) (o := 0) (by omega) (.int .i64 ep)).farZ (b' := w.heap.size + 2) (o := 1) (by omega) (.int .i64 off)).farZ (b' := w.heap.size + 2) (o := 2) (by omega) (.slice ea out.length ec))
      replace Ad := (((Ad.farZ (b' := w.heap.size + 2) (o := 0) (by omega) (.int .i64 ep)).farZ (b' := w.heap.size + 2) (o := 1) (by omega) (.int .i64 off)).farZ (b' := w.heap.size + 2) (o := 2) (by omega) (.slice ea out.length ec))
      replace Bd := (((Bd.setCell (p := ⟨w.heap.size + 2, 0, none⟩) (by simp) (.int .i64 ep)).setCell (p := ⟨w.heap.size + 2, 1, none⟩) (by simp) (.int .i64 off)).setCell (p := ⟨w.heap.size + 2, 2, none⟩) (by simp) (.slice ea out.length ec))
      clear z0 f0 z1 f1 z2 f2
      generalize (((wd.setCell ⟨w.heap.size + 2, 0, none⟩ (.int .i64 ep)).setCell ⟨w.heap.size + 2, 1, none⟩ (.int .i64 off)).setCell ⟨w.heap.size + 2, 2, none⟩ (.slice ea out.length ec)) = wd at *
      refine hK.out _ _ (by first | exact ⟨⟨Cc 0 _ rfl, Cc 1 _ rfl⟩, ⟨Gc 0 _ rfl, Gc 1 _ rfl⟩, Rc 0 _ rfl, Rc 1 _ rfl, Rc 2 _ rfl⟩ | exact pt | go_keep) (fun hHeld => ?_)
      clear hK K
      try simp only [Act.put, sA, sB, sC]
      refine tY 10 (v := ?_) rfl (by kernel_rfl) (.inl ⟨by rfl, ?_⟩) ‹_› ?_
      rotate_left 1
      ·intro w hSw
       (try dsimp only at hSw)
       first | (go_simp; done) | (go_simp; with_reducible rfl)
      try simp only [Act.put, sA, sB, sC]
      refine wpAnyH_done (by kernel_rfl) ?_ _
      refine NoPanic.normal ?_
      have a0 := (Zd.2 0 _ rfl).1
      have a1 := (Zd.2 1 _ rfl).1
      have b0 := (Yd.2 0 _ rfl).1
      have b1 := (Yd.2 1 _ rfl).1
      have c0 := (Xd.2 0 _ rfl).1
      have c1 := (Xd.2 1 _ rfl).1
      have c2 := (Xd.2 2 _ rfl).1
      have hQ : Hid (DrawRn w (.returned (.tuple #[.agg #[.slice ca ds.length cc, .int .i64 cop], .agg #[.slice ga g.eras.length gc, .int .i64 g.trim], .int .i64 (p2 : Int), .agg #[.int .i64 ep, .int .i64 off, .slice ea out.length ec], .slice la al.length lc])) wd) := ⟨ds, cop, g, ⟨ep, off, out⟩, _, al, ca, cc, ga, gc, ea, ec, la, lc, rfl, Nd, ⟨_, rfl, Od.rd⟩, ⟨_, rfl, Vd.rw⟩, Ad.rw, dU FD, dU FG, dU FR, dU FA, ⟨by omega, by omega⟩, Bd⟩
      clear Nd Od Vd Ad Bd Zd Yd Xd Cc Gc Rc pt
      go_wp2_with fail
      refine bodyPost_ret (v := .tuple #[.agg #[.slice ca ds.length cc, .int .i64 cop], .agg #[.slice ga g.eras.length gc, .int .i64 g.trim], .int .i64 (p2 : Int), .agg #[.int .i64 ep, .int .i64 off, .slice ea out.length ec], .slice la al.length lc]) (by simp [results, Tryz.results13, go_sem, a0, a1, b0, b1, c0, c1, c2]) rfl (dU hQ)
end Go.Proofs.YtjkjmapibcfcdaaGreat
