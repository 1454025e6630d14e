/- Mends drawn: l9Draw (printed by tools/mkmdd.py). -/
import Derived.Test.YtjkjmapibcfcdaaGreatMdC
import Derived.Test.YtjkjmapibcfcdaaGreatGx3
import Derived.Deep.RegionLaw
import Derived.Deep.RegionHeld3
import Derived.Deep.DeepCutAuto
namespace Go.Proofs.YtjkjmapibcfcdaaGreat
open Go.ChangeShapes Go.WideShapes Go.ChangeAt Go.RowKit
set_option linter.unusedVariables false
set_option linter.unusedSimpArgs false
set_option maxRecDepth 100000

theorem touchE_at {w : World} {base : Nat} {v : Value} {es : List Ent} (h : ApE w base v es) (hx : es ≠ []) : touch v = some (bO v) := by
 rcases h with ⟨h, -⟩ | h
 ·exact absurd h hx
 ·rcases h.2 with ⟨-, h0⟩ | ⟨g, cap, cur, rfl, -, -, hnc, -⟩
  ·exact absurd (List.length_eq_zero_iff.1 h0) hx
  ·have : es.length ≠ 0 := fun e => hx (List.length_eq_zero_iff.1 e)
   have hc : cap ≠ 0 := by omega
   simp [touch, hc, bO]
section
variable {lo hi : Nat} {sv ev wv ev' wv' : Value} {rs : List (Nst (List Int))} {ss : List Int} {es : List Ent} {W W' : World}
theorem MIn.seenApp {x : Ent} (h : MIn lo hi sv ev wv rs ss es W) (hh : hi ≤ W.heap.size) (hG : W.grownBy W' (touch ev)) (hA : ApE W' lo ev' (es ++ [x])) (ht : touch ev' = touch ev ∨ ∀ k, touch ev' = some k → W.heap.size ≤ k) : MIn lo W'.heap.size sv ev' wv rs ss (es ++ [x]) W' := by
 have hE : CpE W' lo ev' (es ++ [x]) := ⟨hA, fun e => by simp at e⟩
 have s5 := hG.size
 have hne : es ++ [x] ≠ [] := by simp
 have old : ∀ j, j < hi → (es = [] ∨ bO ev ≠ j) → touch ev ≠ some j := fun j _ hn e => by
  obtain ⟨q1, q2⟩ := h.e.touch e
  rcases hn with q | q
  ·exact q1 q
  ·exact q q2.symm
 have nw : ∀ j, j < hi → (es = [] ∨ bO ev ≠ j) → bO ev' ≠ j := fun j hj hn e => by
  have t' : touch ev' = some (bO ev') := by
   rcases hA with ⟨q, -⟩ | q
   ·exact absurd q hne
   ·rcases q.2 with ⟨-, h0⟩ | ⟨g, cap, cur, rfl, -, -, hnc, -⟩
    ·exact absurd (List.length_eq_zero_iff.1 h0) hne
    ·have : (es ++ [x]).length ≠ 0 := by simp
     have hc : cap ≠ 0 := by omega
     simp [touch, hc, bO]
  rcases ht with r | r
  ·exact old j hj hn (by rw [← r, t', e])
  ·have := r _ t'
   omega
 have sE : ss = [] ∨ es = [] ∨ bO ev ≠ bO sv := h.se.imp id (fun q => q.imp id Ne.symm)
 refine ⟨⟨h.s.1.sameB ?_, h.s.2.imp id (fun q => by omega)⟩, hE, hE.lt, ⟨ApR.sameB h.l.1 (fun b hb => ?_), fun p hp => (h.l.2.1 p hp).sameB ?_, h.l.2.2⟩, fun b hb => by have := h.lh b hb; omega, fun p hp => (h.ph p hp).imp id (fun q => by omega), ?_, h.sw, .inr ⟨fun e => ?_, fun p hp => ?_⟩⟩
 ·rcases h.s.2 with q | q
  ·exact .inl q
  ·rcases sE with r | r
   ·exact .inl r
   ·exact .inr (hG.block _ (by omega) (fun e => old _ q r e.symm))
 ·have hb' := h.lh b hb
  refine hG.block _ (by omega) (fun e => old b hb' ?_ e.symm)
  exact h.ew.imp id (fun q e' => q.1 (by rw [hb, e']))
 ·rcases h.ph p hp with q | q
  ·exact .inl q
  ·by_cases hm : p.m = []
   ·exact .inl hm
   ·exact .inr (hG.block _ (by omega) (fun e => old _ q (h.ew.imp id (fun r => Ne.symm ((r.2 p hp).resolve_left hm))) e.symm))
 ·rcases h.s.2 with q | q
  ·exact .inl q
  ·rcases sE with r | r
   ·exact .inl r
   ·exact .inr (.inr (Ne.symm (nw _ q r)))
 ·exact nw _ (h.lh _ e) (h.ew.imp id (fun q e' => q.1 (by rw [e, e']))) rfl
 ·by_cases hm : p.m = []
  ·exact .inl hm
  ·exact .inr (Ne.symm (nw _ ((h.ph p hp).resolve_left hm) (h.ew.imp id (fun r => Ne.symm ((r.2 p hp).resolve_left hm)))))
theorem MIn.wroteApp {p : Nst (List Int)} {B : Nat} (h : MIn lo hi sv ev wv rs ss es W) (hh : hi ≤ B) (hl : lo ≤ B) (hB : B ≤ W.heap.size) (hp : OwnN W B (Sv idL p) p.m) (hG : W.grownBy W' (touch wv)) (hA : ApR 24 1 lsCl W' lo wv' (rs ++ [p])) (ht : touch wv' = touch wv ∨ ∀ k, touch wv' = some k → W.heap.size ≤ k) : MIn lo W'.heap.size sv ev wv' (rs ++ [p]) ss es W' := by
 have s5 := hG.size
 have hpn : p.m = [] ∨ B ≤ bO (Sv idL p) := hp.ge
 have LA := LAp.snoc h.l hp hl (fun q hq => by
  rcases h.ph q hq with r | r
  ·exact .inl r
  ·rcases hpn with r2 | r2
   ·exact .inr (.inl r2)
   ·exact .inr (.inr (by omega))) (hpn.imp id (fun r e => by have := h.lh _ e; omega)) hA hG ht
 have nt : ∀ b, b < hi → touch wv ≠ some b → touch wv' ≠ some b := fun b hb hn => by
  rcases ht with r | r
  ·rw [r]; exact hn
  ·intro e
   have := r _ e
   omega
 have pe : ∀ q ∈ rs ++ [p], q ∈ rs ∨ q = p := fun q hq => by
  rcases List.mem_append.1 hq with r | r
  ·exact .inl r
  ·exact .inr (by simpa using r)
 refine ⟨⟨h.s.1.sameB ?_, h.s.2.imp id (fun q => by omega)⟩, h.e.grown4 hG (h.ew.imp id (fun q => q.1)), h.eh.imp id (fun q => by omega), LA, fun b hb => (hA.touched elemL hb).2, fun q hq => (LA.2.1 q hq).bs.lt, h.se, ?_, ?_⟩
 ·rcases h.s.2 with q | q
  ·exact .inl q
  ·rcases h.sw with r | r
   ·exact .inl r
   ·exact .inr (hG.block _ (by omega) (fun e => r.1 e.symm))
 ·rcases h.s.2 with q | q
  ·exact .inl q
  ·rcases h.sw with r | r
   ·exact .inl r
   ·refine .inr ⟨nt _ q r.1, fun x hx => ?_⟩
    rcases pe x hx with y | rfl
    ·exact r.2 x y
    ·exact hpn.imp id (fun z => by omega)
 ·rcases h.eh with q | q
  ·exact .inl q
  ·rcases h.ew with r | r
   ·exact .inl r
   ·refine .inr ⟨nt _ q r.1, fun x hx => ?_⟩
    rcases pe x hx with y | rfl
    ·exact r.2 x y
    ·exact hpn.imp id (fun z => by omega)
end
def fitN (m : Mn) : Prop := okMend m ∧ m.sealed.length ≤ 21 ∧ (m.seen.length ≤ 62 ∧ ∀ e ∈ m.seen, e.data.size ≤ 60) ∧ m.wrote.length ≤ 62 ∧ ∀ l ∈ m.wrote, l.length ≤ 21
theorem fitN.siz {m : Mn} (h : fitN m) : sizMend m ≤ 1048576 := by
 obtain ⟨-, h1, ⟨h2, h3⟩, h4, h5⟩ := h
 have q1 := sumL_fit h5
 have q2 := sumD_fit h3
 have q3 : 21 * m.wrote.length ≤ 21 * 62 := Nat.mul_le_mul_left _ h4
 have q4 : 60 * m.seen.length ≤ 60 * 62 := Nat.mul_le_mul_left _ h2
 unfold sizMend sizEntryS sizIntSS
 omega
theorem fitM.n {m : Mn} (h : fitM m) : fitN m := ⟨h.1, h.2.1, ⟨by have := h.2.2.1.1; omega, h.2.2.1.2⟩, by have := h.2.2.2.1; omega, h.2.2.2.2⟩
def DrawR (w : World) (bk : Nat) (e : Ending) (w' : World) : Prop := (∃ (m : Mn) (q : Pm), e = .returned (.agg #[.int .i64 m.bye, .int .i64 m.epoch, .slice q.sa m.sealed.length q.sc, .slice q.ea m.seen.length q.ec, .bool m.planned, .slice q.wa m.wrote.length q.wc]) ∧ OwMend w.heap.size w'.heap.size (.agg #[.int .i64 m.bye, .int .i64 m.epoch, .slice q.sa m.sealed.length q.sc, .slice q.ea m.seen.length q.ec, .bool m.planned, .slice q.wa m.wrote.length q.wc]) m w' ∧ fitN m) ∧ Cur w' bk ∧ Drawn bk w w'
set_option maxHeartbeats 32000000 in
theorem l9Draw_any (bk : Nat) (ca : Option Addr) (cc : Nat) (ds : List Int) (cop : Int) (w : World) (hc : Cur w bk) (hv : Ns w (.slice ca ds.length cc) ds) (hl : ds.length ≤ 9) (hne : ds = [] ∨ bO (.slice ca ds.length cc) ≠ bk) :
  Calls Tryz.prog 67 #[.pointer (some ⟨bk, 0, none⟩), .agg #[.slice ca ds.length cc, .int .i64 cop]] w (DrawR w bk) := by
 have ba : ∀ (w : World) o, Below w.heap.size w (w.alloc o) := fun w o => (Below.refl _ _).alloc (Nat.le_refl _) o
 have hk := hc.lt
 have hw := hv.lt
 have b1 := ba w (.cells #[.slice ca ds.length cc, .int .i64 cop] 26)
 have b2 := ba (w.alloc (.cells #[.slice ca ds.length cc, .int .i64 cop] 26)) (.cells #[.int .i64 0, .int .i64 0, .slice none 0 0, .slice none 0 0, .bool false, .slice none 0 0] 30)
 have bb := bT b1 b2
 have X0 := (Bx.new w [.slice ca ds.length cc, .int .i64 cop] 26).below b2
 have R0 := BxZ.new (B := w.heap.size) (w.alloc (.cells #[.slice ca ds.length cc, .int .i64 cop] 26)) [.int .i64 0, .int .i64 0, .slice none 0 0, .slice none 0 0, .bool false, .slice none 0 0] 30 (by simp)
 rw [show (w.alloc (.cells #[.slice ca ds.length cc, .int .i64 cop] 26)).heap.size = w.heap.size + 1 by simp] at R0
 have C0 := hc.below bb
 have NN := hv.below bb
 have e3 : Hid (((w.alloc (.cells #[.slice ca ds.length cc, .int .i64 cop] 26)).alloc (.cells #[.int .i64 0, .int .i64 0, .slice none 0 0, .slice none 0 0, .bool false, .slice none 0 0] 30)).heap.size = w.heap.size + 2) := by simp [Hid]
 have CR := dH (l9DrawRight_any bk ca cc ds cop _ C0 NN hl hne)
 have x0 := X0 0 _ rfl
 have x1 := X0 1 _ rfl
 replace X0 := dH X0
 replace R0 := dH R0
 replace NN := dH NN
 clear hc hv b1 b2 C0
 go_enter Tryz.func67, Tryz.ntmps67
 go_wp2_with fail
 generalize (w.alloc (.cells #[.slice ca ds.length cc, .int .i64 cop] 26)).alloc (.cells #[.int .i64 0, .int .i64 0, .slice none 0 0, .slice none 0 0, .bool false, .slice none 0 0] 30) = w0 at *
 have h3 := dU e3
 refine (dU CR).mono ?_
 rintro r w1 ⟨⟨m, q, rfl, O1, F1⟩, hc1, hd1⟩
 have hs1 := hd1.size
 have b3 := ba w1 (.cells #[.int .i64 m.bye, .int .i64 m.epoch, .slice q.sa m.sealed.length q.sc, .slice q.ea m.seen.length q.ec, .bool m.planned, .slice q.wa m.wrote.length q.wc] 30)
 have K2 := hc1.below b3
 have D2 := (Drawn.of_below bb).trans (hd1.trans (Drawn.of_below b3))
 have X2 := ((dU X0).drawn hd1 (by omega)).below b3
 have N2 := ((dU NN).drawn hd1 hne).below b3
 have R2 := ((dU R0).drawn hd1 (by omega)).below b3
 have M2 := BxZ.new (B := 0) w1 [.int .i64 m.bye, .int .i64 m.epoch, .slice q.sa m.sealed.length q.sc, .slice q.ea m.seen.length q.ec, .bool m.planned, .slice q.wa m.wrote.length q.wc] 30 (Nat.zero_le _)
 have O2 := ownBelow O1 (Nat.le_refl _) b3
 have es : (w1.alloc (.cells #[.int .i64 m.bye, .int .i64 m.epoch, .slice q.sa m.sealed.length q.sc, .slice q.ea m.seen.length q.ec, .bool m.planned, .slice q.wa m.wrote.length q.wc] 30)).heap.size = w1.heap.size + 1 := by simp
 clear CR x0 x1 X0 R0 NN hc1 hd1 O1 bb
 go_wp2_with fail
 generalize w1.alloc (.cells #[.int .i64 m.bye, .int .i64 m.epoch, .slice q.sa m.sealed.length q.sc, .slice q.ea m.seen.length q.ec, .bool m.planned, .slice q.wa m.wrote.length q.wc] 30) = w2 at *
 generalize hbt : w1.heap.size = bt at *
 clear hbt b3
 refine (l1Below_any bk 25 (by omega) (by omega) _ K2).mono ?_
 rintro r w3 ⟨⟨t, htn, rfl⟩, hc3, hd3⟩
 have hs3 := hd3.size
 have D3 := D2.trans hd3
 have X3 := X2.drawn hd3 (by omega)
 have N3 := N2.drawn hd3 hne
 have R3 := R2.drawn hd3 (by omega)
 have M3 := M2.drawn hd3 (by omega)
 obtain ⟨rs, e9, O3⟩ : ∃ rs, rs.map Nst.m = m.wrote ∧ MIn w0.heap.size bt (.slice q.sa m.sealed.length q.sc) (.slice q.ea m.seen.length q.ec) (.slice q.wa m.wrote.length q.wc) rs m.sealed m.seen w3 := by
  obtain ⟨rs, h1, h2⟩ := O2
  exact ⟨rs, h1, h2.same fun k h3 h4 => hd3.block k (by omega) (by omega)⟩
 have E9 := dH e9
 clear D2 X2 N2 R2 M2 O2 hd3 K2 e9
 have MD : Hid (∀ (V : World) (v0 : Int) (v4 : Bool), MIn w0.heap.size V.heap.size (.slice q.sa m.sealed.length q.sc) (.slice q.ea m.seen.length q.ec) (.slice q.wa m.wrote.length q.wc) rs m.sealed m.seen V → fitM m → okInt v0 → ∃ (m' : Mn) (q' : Pm), Ending.returned (.agg #[.int .i64 v0, .int .i64 m.epoch, .slice q.sa m.sealed.length q.sc, .slice q.ea m.seen.length q.ec, .bool v4, .slice q.wa m.wrote.length q.wc]) = .returned (.agg #[.int .i64 m'.bye, .int .i64 m'.epoch, .slice q'.sa m'.sealed.length q'.sc, .slice q'.ea m'.seen.length q'.ec, .bool m'.planned, .slice q'.wa m'.wrote.length q'.wc]) ∧ OwMend w.heap.size V.heap.size (.agg #[.int .i64 m'.bye, .int .i64 m'.epoch, .slice q'.sa m'.sealed.length q'.sc, .slice q'.ea m'.seen.length q'.ec, .bool m'.planned, .slice q'.wa m'.wrote.length q'.wc]) m' V ∧ fitN m') := fun V v0 v4 h hf h0 => ⟨⟨v0, m.epoch, m.sealed, m.seen, v4, m.wrote⟩, q, rfl, MIn.mend (m := ⟨v0, m.epoch, m.sealed, m.seen, v4, m.wrote⟩) (h.wide (by omega) (Nat.le_refl _)) (dU E9), ⟨⟨h0, hf.1.2⟩, hf.n.2⟩⟩
 by_cases h0 : t = 0
 ·have n0 : ((t : Int) == 0) = true := by first | (simp; omega) | (rw [beq_eq_false_iff_ne]; omega) | (rw [beq_iff_eq]; omega)
  have bA := ba w3 (.cells #[.int .i64 m.epoch, .int .i64 30, .int .i64 31] 3)
  have XA := Bx.new w3 [.int .i64 m.epoch, .int .i64 30, .int .i64 31] 3
  have szA : (w3.alloc (.cells #[.int .i64 m.epoch, .int .i64 30, .int .i64 31] 3)).heap.size = w3.heap.size + 1 := by simp
  have hkw : bk < w3.heap.size := by omega
  have CPi := dH (l1PickInt_any bk w3.heap.size 0 3 [m.epoch, 30, 31] (w3.alloc (.cells #[.int .i64 m.epoch, .int .i64 30, .int .i64 31] 3)) (by simp) (by simp) (fun i hi => by
   match i, hi with
   | 0, _ => exact XA 0 _ rfl
   | 1, _ => exact XA 1 _ rfl
   | 2, _ => exact XA 2 _ rfl) (by omega) (hc3.below bA))
  have o1 := (M3.2 1 _ rfl).1
  have D4 := D3.trans (Drawn.of_below bA)
  have R4 := R3.below bA
  have M4 := M3.below bA
  have O4 := O3.below (by omega) bA
  have F4 := dH F1
  clear R3 M3 O3 D3 XA hc3 bA
  go_wp2_with fail
  refine (dU CPi).mono ?_
  rintro e w4 ⟨⟨v0, hv0, rfl⟩, hc4, hd4⟩
  have s4 := hd4.size
  have okv : okInt v0 := by
   simp only [List.mem_cons, List.not_mem_nil, or_false] at hv0
   have := (dU F4).1.2.1
   rcases hv0 with rfl | rfl | rfl
   ·exact this
   ·exact ⟨by omega, by omega⟩
   ·exact ⟨by omega, by omega⟩
  have D5 := D4.trans hd4
  have R5 := R4.drawn hd4 (by omega)
  have M5 := M4.drawn hd4 (by omega)
  have O5 := O4.same fun k h3 h4 => hd4.block k (by omega) (by omega)
  have hbt5 : bt < w4.heap.size := by omega
  obtain ⟨z9, g9⟩ := M5.2 0 _ rfl
  have M6 := M5.put 0 (.int .i64 v0)
  have R6 := R5.far (b' := bt) (o := 0) (by omega) (.int .i64 v0)
  have O6 := (O5.far (b := bt) (o := 0) (.inr (Nat.le_refl _)) (.int .i64 v0)).wide (hi' := (w4.setCell ⟨bt, 0, none⟩ (.int .i64 v0)).heap.size) (Nat.le_refl _) (by rw [World.size_setCell]; omega)
  have C6 := hc4.setNew4 (b := bt) (by omega) 0 (.int .i64 v0)
  have D6 := D5.setNew (b := bt) (by omega) 0 (.int .i64 v0)
  have s6 : (w4.setCell ⟨bt, 0, none⟩ (.int .i64 v0)).heap.size = w4.heap.size := by simp
  have o0 := (M6.2 0 _ rfl).1
  have o1 := (M6.2 1 _ rfl).1
  have o2 := (M6.2 2 _ rfl).1
  have o3 := (M6.2 3 _ rfl).1
  have o4 := (M6.2 4 _ rfl).1
  have o5 := (M6.2 5 _ rfl).1
  clear CPi hv0 D4 R4 M4 O4 D5 R5 M5 O5 hc4 hd4 M6
  go_upto_region 13 with fail
  generalize w4.setCell ⟨bt, 0, none⟩ (.int .i64 v0) = w5 at *
  clear z9 g9
  obtain ⟨⟨z0, f0⟩, ⟨z1, f1⟩, ⟨z2, f2⟩, ⟨z3, f3⟩, ⟨z4, f4⟩, ⟨z5, f5⟩⟩ : (_ ∧ _) ∧ (_ ∧ _) ∧ (_ ∧ _) ∧ (_ ∧ _) ∧ (_ ∧ _) ∧ (_ ∧ _) := ⟨R6.2 0 _ rfl, R6.2 1 _ rfl, R6.2 2 _ rfl, R6.2 3 _ rfl, R6.2 4 _ rfl, R6.2 5 _ rfl⟩
  have ZZ := dH ((((((R6.put 0 (.int .i64 v0)).put 1 (.int .i64 m.epoch)).put 2 (.slice q.sa m.sealed.length q.sc)).put 3 (.slice q.ea m.seen.length q.ec)).put 4 (.bool m.planned)).put 5 (.slice q.wa m.wrote.length q.wc))
  have OO := dH ((((((O6.far (b := w.heap.size + 1) (o := 0) (.inl (by omega)) (.int .i64 v0)).far (b := w.heap.size + 1) (o := 1) (.inl (by omega)) (.int .i64 m.epoch)).far (b := w.heap.size + 1) (o := 2) (.inl (by omega)) (.slice q.sa m.sealed.length q.sc)).far (b := w.heap.size + 1) (o := 3) (.inl (by omega)) (.slice q.ea m.seen.length q.ec)).far (b := w.heap.size + 1) (o := 4) (.inl (by omega)) (.bool m.planned)).far (b := w.heap.size + 1) (o := 5) (.inl (by omega)) (.slice q.wa m.wrote.length q.wc))
  have CC := dH ((((((C6.setNew4 (b := w.heap.size + 1) (by omega) 0 (.int .i64 v0)).setNew4 (b := w.heap.size + 1) (by omega) 1 (.int .i64 m.epoch)).setNew4 (b := w.heap.size + 1) (by omega) 2 (.slice q.sa m.sealed.length q.sc)).setNew4 (b := w.heap.size + 1) (by omega) 3 (.slice q.ea m.seen.length q.ec)).setNew4 (b := w.heap.size + 1) (by omega) 4 (.bool m.planned)).setNew4 (b := w.heap.size + 1) (by omega) 5 (.slice q.wa m.wrote.length q.wc))
  have DD := dH ((((((D6.setNew (b := w.heap.size + 1) (by omega) 0 (.int .i64 v0)).setNew (b := w.heap.size + 1) (by omega) 1 (.int .i64 m.epoch)).setNew (b := w.heap.size + 1) (by omega) 2 (.slice q.sa m.sealed.length q.sc)).setNew (b := w.heap.size + 1) (by omega) 3 (.slice q.ea m.seen.length q.ec)).setNew (b := w.heap.size + 1) (by omega) 4 (.bool m.planned)).setNew (b := w.heap.size + 1) (by omega) 5 (.slice q.wa m.wrote.length q.wc))
  have hV : w5.heap.size = ((((((w5.setCell ⟨w.heap.size + 1, 0, none⟩ (.int .i64 v0)).setCell ⟨w.heap.size + 1, 1, none⟩ (.int .i64 m.epoch)).setCell ⟨w.heap.size + 1, 2, none⟩ (.slice q.sa m.sealed.length q.sc)).setCell ⟨w.heap.size + 1, 3, none⟩ (.slice q.ea m.seen.length q.ec)).setCell ⟨w.heap.size + 1, 4, none⟩ (.bool m.planned)).setCell ⟨w.heap.size + 1, 5, none⟩ (.slice q.wa m.wrote.length q.wc)).heap.size := by simp
  clear O6 C6 D6 R6
  go_wp2_with fail
  generalize ((((((w5.setCell ⟨w.heap.size + 1, 0, none⟩ (.int .i64 v0)).setCell ⟨w.heap.size + 1, 1, none⟩ (.int .i64 m.epoch)).setCell ⟨w.heap.size + 1, 2, none⟩ (.slice q.sa m.sealed.length q.sc)).setCell ⟨w.heap.size + 1, 3, none⟩ (.slice q.ea m.seen.length q.ec)).setCell ⟨w.heap.size + 1, 4, none⟩ (.bool m.planned)).setCell ⟨w.heap.size + 1, 5, none⟩ (.slice q.wa m.wrote.length q.wc)) = V at *
  have q0 := ((dU ZZ).2 0 _ rfl).1
  have q1 := ((dU ZZ).2 1 _ rfl).1
  have q2 := ((dU ZZ).2 2 _ rfl).1
  have q3 := ((dU ZZ).2 3 _ rfl).1
  have q4 := ((dU ZZ).2 4 _ rfl).1
  have q5 := ((dU ZZ).2 5 _ rfl).1
  refine bodyPost_ret (v := .agg #[.int .i64 v0, .int .i64 m.epoch, .slice q.sa m.sealed.length q.sc, .slice q.ea m.seen.length q.ec, .bool m.planned, .slice q.wa m.wrote.length q.wc]) (by simp [results, Tryz.results67, go_sem, q0, q1, q2, q3, q4, q5]) rfl ⟨?_, dU CC, dU DD⟩
  rw [hV] at OO
  exact dU MD V v0 m.planned (dU OO) (dU F4) okv
 by_cases h1 : t = 1
 ·have n0 : ((t : Int) == 0) = false := by first | (simp; omega) | (rw [beq_eq_false_iff_ne]; omega) | (rw [beq_iff_eq]; omega)
  have n1 : ((t : Int) == 1) = true := by first | (simp; omega) | (rw [beq_eq_false_iff_ne]; omega) | (rw [beq_iff_eq]; omega)
  have o4 := (M3.2 4 _ rfl).1
  have g9 := (M3.2 4 _ rfl).2
  have hbt5 : bt < w3.heap.size := by omega
  have M6 := M3.put 4 (.bool (!m.planned))
  have R6 := R3.far (b' := bt) (o := 4) (by omega) (.bool (!m.planned))
  have O6 := (O3.far (b := bt) (o := 4) (.inr (Nat.le_refl _)) (.bool (!m.planned))).wide (hi' := (w3.setCell ⟨bt, 4, none⟩ (.bool (!m.planned))).heap.size) (Nat.le_refl _) (by rw [World.size_setCell]; omega)
  have C6 := hc3.setNew4 (b := bt) (by omega) 4 (.bool (!m.planned))
  have D6 := D3.setNew (b := bt) (by omega) 4 (.bool (!m.planned))
  have s6 : (w3.setCell ⟨bt, 4, none⟩ (.bool (!m.planned))).heap.size = w3.heap.size := by simp
  have F4 := dH F1
  have o0 := (M6.2 0 _ rfl).1
  have o1 := (M6.2 1 _ rfl).1
  have o2 := (M6.2 2 _ rfl).1
  have o3 := (M6.2 3 _ rfl).1
  have p4 := (M6.2 4 _ rfl).1
  have o5 := (M6.2 5 _ rfl).1
  clear R3 M3 O3 D3 hc3 M6
  go_upto_region 13 with fail
  generalize w3.setCell ⟨bt, 4, none⟩ (.bool (!m.planned)) = w5 at *
  clear g9 o4
  have o4 := p4
  obtain ⟨⟨z0, f0⟩, ⟨z1, f1⟩, ⟨z2, f2⟩, ⟨z3, f3⟩, ⟨z4, f4⟩, ⟨z5, f5⟩⟩ : (_ ∧ _) ∧ (_ ∧ _) ∧ (_ ∧ _) ∧ (_ ∧ _) ∧ (_ ∧ _) ∧ (_ ∧ _) := ⟨R6.2 0 _ rfl, R6.2 1 _ rfl, R6.2 2 _ rfl, R6.2 3 _ rfl, R6.2 4 _ rfl, R6.2 5 _ rfl⟩
  have ZZ := dH ((((((R6.put 0 (.int .i64 m.bye)).put 1 (.int .i64 m.epoch)).put 2 (.slice q.sa m.sealed.length q.sc)).put 3 (.slice q.ea m.seen.length q.ec)).put 4 (.bool (!m.planned))).put 5 (.slice q.wa m.wrote.length q.wc))
  have OO := dH ((((((O6.far (b := w.heap.size + 1) (o := 0) (.inl (by omega)) (.int .i64 m.bye)).far (b := w.heap.size + 1) (o := 1) (.inl (by omega)) (.int .i64 m.epoch)).far (b := w.heap.size + 1) (o := 2) (.inl (by omega)) (.slice q.sa m.sealed.length q.sc)).far (b := w.heap.size + 1) (o := 3) (.inl (by omega)) (.slice q.ea m.seen.length q.ec)).far (b := w.heap.size + 1) (o := 4) (.inl (by omega)) (.bool (!m.planned))).far (b := w.heap.size + 1) (o := 5) (.inl (by omega)) (.slice q.wa m.wrote.length q.wc))
  have CC := dH ((((((C6.setNew4 (b := w.heap.size + 1) (by omega) 0 (.int .i64 m.bye)).setNew4 (b := w.heap.size + 1) (by omega) 1 (.int .i64 m.epoch)).setNew4 (b := w.heap.size + 1) (by omega) 2 (.slice q.sa m.sealed.length q.sc)).setNew4 (b := w.heap.size + 1) (by omega) 3 (.slice q.ea m.seen.length q.ec)).setNew4 (b := w.heap.size + 1) (by omega) 4 (.bool (!m.planned))).setNew4 (b := w.heap.size + 1) (by omega) 5 (.slice q.wa m.wrote.length q.wc))
  have DD := dH ((((((D6.setNew (b := w.heap.size + 1) (by omega) 0 (.int .i64 m.bye)).setNew (b := w.heap.size + 1) (by omega) 1 (.int .i64 m.epoch)).setNew (b := w.heap.size + 1) (by omega) 2 (.slice q.sa m.sealed.length q.sc)).setNew (b := w.heap.size + 1) (by omega) 3 (.slice q.ea m.seen.length q.ec)).setNew (b := w.heap.size + 1) (by omega) 4 (.bool (!m.planned))).setNew (b := w.heap.size + 1) (by omega) 5 (.slice q.wa m.wrote.length q.wc))
  have hV : w5.heap.size = ((((((w5.setCell ⟨w.heap.size + 1, 0, none⟩ (.int .i64 m.bye)).setCell ⟨w.heap.size + 1, 1, none⟩ (.int .i64 m.epoch)).setCell ⟨w.heap.size + 1, 2, none⟩ (.slice q.sa m.sealed.length q.sc)).setCell ⟨w.heap.size + 1, 3, none⟩ (.slice q.ea m.seen.length q.ec)).setCell ⟨w.heap.size + 1, 4, none⟩ (.bool (!m.planned))).setCell ⟨w.heap.size + 1, 5, none⟩ (.slice q.wa m.wrote.length q.wc)).heap.size := by simp
  clear O6 C6 D6 R6
  go_wp2_with fail
  generalize ((((((w5.setCell ⟨w.heap.size + 1, 0, none⟩ (.int .i64 m.bye)).setCell ⟨w.heap.size + 1, 1, none⟩ (.int .i64 m.epoch)).setCell ⟨w.heap.size + 1, 2, none⟩ (.slice q.sa m.sealed.length q.sc)).setCell ⟨w.heap.size + 1, 3, none⟩ (.slice q.ea m.seen.length q.ec)).setCell ⟨w.heap.size + 1, 4, none⟩ (.bool (!m.planned))).setCell ⟨w.heap.size + 1, 5, none⟩ (.slice q.wa m.wrote.length q.wc)) = V at *
  have q0 := ((dU ZZ).2 0 _ rfl).1
  have q1 := ((dU ZZ).2 1 _ rfl).1
  have q2 := ((dU ZZ).2 2 _ rfl).1
  have q3 := ((dU ZZ).2 3 _ rfl).1
  have q4 := ((dU ZZ).2 4 _ rfl).1
  have q5 := ((dU ZZ).2 5 _ rfl).1
  refine bodyPost_ret (v := .agg #[.int .i64 m.bye, .int .i64 m.epoch, .slice q.sa m.sealed.length q.sc, .slice q.ea m.seen.length q.ec, .bool (!m.planned), .slice q.wa m.wrote.length q.wc]) (by simp [results, Tryz.results67, go_sem, q0, q1, q2, q3, q4, q5]) rfl ⟨?_, dU CC, dU DD⟩
  rw [hV] at OO
  exact dU MD V m.bye (!m.planned) (dU OO) (dU F4) (dU F4).1.1
 by_cases h2 : t = 2
 ·have n0 : ((t : Int) == 0) = false := by first | (simp; omega) | (rw [beq_eq_false_iff_ne]; omega) | (rw [beq_iff_eq]; omega)
  have n1 : ((t : Int) == 1) = false := by first | (simp; omega) | (rw [beq_eq_false_iff_ne]; omega) | (rw [beq_iff_eq]; omega)
  have n2 : ((t : Int) == 2) = true := by first | (simp; omega) | (rw [beq_eq_false_iff_ne]; omega) | (rw [beq_iff_eq]; omega)
  have F4 := dH F1
  have hbt5 : bt < w3.heap.size := by omega
  have bdr : Below w3.heap.size w3 w3.drew := (Below.refl _ _).drew
  have hcd := hc3.below bdr
  have Dd := D3.trans (Drawn.of_below bdr)
  have Xd := X3.below bdr
  have Nd := N3.below bdr
  have Rd := R3.below bdr
  have Md := M3.below bdr
  have Od := O3.below (by omega) bdr
  have hsz : w3.heap.size ≤ w3.drew.heap.size := bdr.size
  have py : w3.cell? ⟨w.heap.size, 0, none⟩ = some (.slice ca ds.length cc) ∧ w3.cell? ⟨w.heap.size, 1, none⟩ = some (.int .i64 cop) := ⟨X3 0 _ rfl, X3 1 _ rfl⟩
  have pz : w3.drew.cell? ⟨w.heap.size, 0, none⟩ = some (.slice ca ds.length cc) ∧ w3.drew.cell? ⟨w.heap.size, 1, none⟩ = some (.int .i64 cop) := ⟨Xd 0 _ rfl, Xd 1 _ rfl⟩
  go_wp2_with fail
  refine wp_region_noPanic ?_
  refine wp_region_held_drew (S := fun W => W.cell? ⟨w.heap.size, 0, none⟩ = some (.slice ca ds.length cc) ∧ W.cell? ⟨w.heap.size, 1, none⟩ = some (.int .i64 cop)) (by kernel_rfl) (by first | exact ⟨Xd 0 _ rfl, Xd 1 _ rfl⟩ | exact pz | exact py | go_keep) (fun hHeld => ?_)
  clear hc3 D3 X3 N3 R3 M3 O3
  generalize w3.drew = wd at *
  refine tY 0 (v := ?_) rfl (by kernel_rfl) (.inl ⟨by rfl, ?_⟩) ‹_› ?_
  rotate_left 1
  ·intro w hSw
   (try dsimp only at hSw)
   first | (go_simp; done) | (go_simp; with_reducible rfl)
  try simp only [Act.put, sA, sB, sC]
  refine tY 2 (v := ?_) rfl (by kernel_rfl) (.inl ⟨by rfl, ?_⟩) ‹_› ?_
  rotate_left 1
  ·intro w hSw
   (try dsimp only at hSw)
   first | (go_simp; done) | (go_simp; with_reducible rfl)
  try simp only [Act.put, sA, sB, sC]
  refine tY 3 (v := ?_) rfl (by kernel_rfl) (.inl ⟨by rfl, ?_⟩) ‹_› ?_
  rotate_left 1
  ·intro w hSw
   (try dsimp only at hSw)
   first | (go_simp; done) | (go_simp; with_reducible rfl)
  try simp only [Act.put, sA, sB, sC]
  refine wpAnyH_ready (rs := [1, 4]) (by kernel_rfl) (by simp) ?_
  refine rC rfl (fun K hK => ?_) (rC rfl (fun K hK => ?_) AllReadyH.nil)
  ·have ol := (Md.2 5 _ rfl).1
   go_simp
   refine hK.out _ _ (by first | exact ⟨Xd 0 _ rfl, Xd 1 _ rfl⟩ | exact pz | exact py | go_keep) (fun hHeld => ?_)
   clear hK K
   try simp only [Act.put, sA, sB, sC]
   refine wpAnyH_ready (rs := [4]) (by kernel_rfl) (by simp) ?_
   refine rC rfl (fun K hK => ?_) AllReadyH.nil
   go_simp
   refine (l4DrawNodes_any bk (.slice ca ds.length cc) ds cop wd hcd Nd hl).mono ?_
   rintro e wd' ⟨⟨u4, zs, rfl, A4, hzl, hz⟩, hc4, hd4⟩
   have N4 := ownN_of_row A4
   obtain ⟨-, ya, yc, rfl, -, -⟩ := N4.bs
   have N5 := N4.mono hsz
   replace Dd := Dd.trans hd4
   replace Xd := Xd.drawn hd4 (by omega)
   replace Nd := Nd.drawn hd4 hne
   replace Rd := Rd.drawn hd4 (by omega)
   replace Md := Md.drawn hd4 (by omega)
   replace Od := Od.same fun k h3 h4 => hd4.block k (by omega) (by omega)
   have hcd' := hc4
   replace hsz : w3.heap.size ≤ wd'.heap.size := Nat.le_trans hsz hd4.size
   clear A4 N4 hc4 hd4 hcd
   try clear ol
   generalize wd' = wd at *
   have hcd := hcd'
   clear hcd'
   (try go_wp2_with fail)
   refine hK.out _ _ (by first | exact ⟨Xd 0 _ rfl, Xd 1 _ rfl⟩ | exact pz | exact py | go_keep) (fun hHeld => ?_)
   clear hK K
   try simp only [Act.put, sA, sB, sC]
   refine wpAnyH_ready (rs := [5]) (by kernel_rfl) (by simp) ?_
   refine rC rfl (fun K hK => ?_) AllReadyH.nil
   go_simp
   have RW := rwL_one wd ⟨ya, yc, zs⟩ 24 1 (by omega)
   have bs := ba wd (.cells #[.slice ya zs.length yc] 24)
   have es2 : (wd.alloc (.cells #[.slice ya zs.length yc] 24)).heap.size = wd.heap.size + 1 := by simp
   replace Dd := Dd.trans (Drawn.of_below bs)
   replace Xd := Xd.below bs
   replace Nd := Nd.below bs
   replace Rd := Rd.below bs
   replace Md := Md.below bs
   replace Od := Od.below (by omega) bs
   have N6 := N5.below bs
   have hcd' := hcd.below bs
   replace hsz : w3.heap.size ≤ (wd.alloc (.cells #[.slice ya zs.length yc] 24)).heap.size := by omega
   clear N5 bs es2 hcd
   try clear ol
   generalize wd.heap.size = b4 at *
   generalize wd.alloc (.cells #[.slice ya zs.length yc] 24) = wd at *
   have hcd := hcd'
   clear hcd'
   refine hK.out _ _ (by first | exact ⟨Xd 0 _ rfl, Xd 1 _ rfl⟩ | exact pz | exact py | go_keep) (fun hHeld => ?_)
   clear hK K
   try simp only [Act.put, sA, sB, sC]
   refine wpAnyH_ready (rs := [6]) (by kernel_rfl) (by simp) ?_
   refine rC rfl (fun K hK => ?_) AllReadyH.nil
   have hrl : rs.length = m.wrote.length := by rw [← dU E9, List.length_map]
   have hwl := (dU F4).2.2.2.1
   obtain ⟨v5, w5, hrun, A5, g5, t5⟩ := run_apR elemL (w := wd) (ms := rs) (ns := [⟨ya, yc, zs⟩]) (base := w0.heap.size) 28 (v := .slice q.wa m.wrote.length q.wc) Od.l.1 (.slice (some ⟨b4, 0, none⟩) 1 1) RW (by simp; omega) (by simp; omega) (by omega)
   obtain ⟨na, nc, hv5⟩ := ApR.slice elemL A5
   rw [show (rs ++ [(⟨ya, yc, zs⟩ : Nst (List Int))]).length = m.wrote.length + 1 by simp; omega] at hv5
   subst hv5
   have s5 := g5.size
   have hTl : ∀ j, touch (.slice q.wa m.wrote.length q.wc) = some j → w0.heap.size ≤ j ∧ j < bt := fun j hj => ⟨(Od.l.1.touched elemL hj).1, Od.lh j hj⟩
   have O6 := Od.wroteApp (p := ⟨ya, yc, zs⟩) (B := w3.heap.size) (by omega) (by omega) hsz N6 g5 A5 t5
   have D6 := Dd.grown g5 (fun j hj => by have := (hTl j hj).1; omega)
   have R6 := Rd.grown g5 (fun e => by have := (hTl _ e).1; omega)
   have M6 := Md.grown g5 (fun e => by have := (hTl _ e).2; omega)
   have X6 := Xd.grown g5 (fun e => by have := (hTl _ e).1; omega)
   have C6 := hcd.grown g5 (fun j hj => by have := (hTl j hj).1; omega)
   have tb : touch (.slice na (m.wrote.length + 1) nc) ≠ some bt := by
    rcases t5 with r | r
    ·rw [r]; exact fun e => by have := (hTl _ e).2; omega
    ·exact fun e => by have := r _ e; omega
   refine op_appR _ _ 28 28 rfl _ _ rfl rfl hrun ?_
   have NBw := (Od.noM (b := bt) (.inl (Nat.le_refl _)))
   have NB : NoM bt (.slice q.sa m.sealed.length q.sc) (.slice q.ea m.seen.length q.ec) (.slice na (m.wrote.length + 1) nc) (rs ++ [⟨ya, yc, zs⟩]) m.sealed m.seen := ⟨NBw.1, NBw.2.1, tb, fun p hp => by
    rcases List.mem_append.1 hp with r | r
    ·exact NBw.2.2.2 p r
    ·obtain rfl : p = ⟨ya, yc, zs⟩ := by simpa using r
     rcases N6.ge with r2 | r2
     ·exact .inl r2
     ·exact .inr (by have r3 : w3.heap.size ≤ bO (Sv idL (⟨ya, yc, zs⟩ : Nst (List Int))) := r2; omega)⟩
   clear hrun A5 g5 t5 RW N6 Od Dd Rd Md Xd Nd hcd NBw hTl
   have Xd := X6
   generalize w5 = wd at *
   refine hK.out _ _ (by first | exact ⟨Xd 0 _ rfl, Xd 1 _ rfl⟩ | exact pz | exact py | go_keep) (fun hHeld => ?_)
   clear hK K
   try simp only [Act.put, sA, sB, sC]
   refine tY 7 (v := ?_) rfl (by kernel_rfl) (.inl ⟨by rfl, ?_⟩) ‹_› ?_
   rotate_left 1
   ·intro w hSw
    (try dsimp only at hSw)
    first | (go_simp; done) | (go_simp; with_reducible rfl)
   try simp only [Act.put, sA, sB, sC]
   refine wpAnyH_ready (rs := [8]) (by kernel_rfl) (by simp) ?_
   refine rC rfl (fun K hK => ?_) AllReadyH.nil
   obtain ⟨z9, g9⟩ := M6.2 5 _ rfl
   go_simp
   have M7 := M6.put 5 (.slice na (m.wrote.length + 1) nc)
   have R7 := R6.far (b' := bt) (o := 5) (by omega) (.slice na (m.wrote.length + 1) nc)
   have O7 := O6.setB (o := 5) NB (.slice na (m.wrote.length + 1) nc)
   have C7 := C6.setNew4 (b := bt) (by omega) 5 (.slice na (m.wrote.length + 1) nc)
   have D7 := D6.setNew (b := bt) (by omega) 5 (.slice na (m.wrote.length + 1) nc)
   have X7 := Xd.farB (b' := bt) (o := 5) (by omega) (.slice na (m.wrote.length + 1) nc)
   have s7 : wd.heap.size = (wd.setCell ⟨bt, 5, none⟩ (.slice na (m.wrote.length + 1) nc)).heap.size := by simp
   have hs9 : w3.heap.size ≤ wd.heap.size := by omega
   rw [s7] at O7
   clear z9 g9 M6 R6 O6 C6 D6 X6 Xd NB
   have Xd := X7
   clear X7
   generalize wd.setCell ⟨bt, 5, none⟩ (.slice na (m.wrote.length + 1) nc) = w5 at *
   refine hK.out _ _ (by first | exact ⟨Xd 0 _ rfl, Xd 1 _ rfl⟩ | exact pz | exact py | go_keep) (fun hHeld => ?_)
   clear hK K
   try simp only [Act.put, sA, sB, sC]
   refine wpAnyH_done (by kernel_rfl) ?_ _
   refine NoPanic.normal ?_
   have o0 := (M7.2 0 _ rfl).1
   have o1 := (M7.2 1 _ rfl).1
   have o2 := (M7.2 2 _ rfl).1
   have o3 := (M7.2 3 _ rfl).1
   have o4 := (M7.2 4 _ rfl).1
   have o5 := (M7.2 5 _ rfl).1
   clear M7 Xd py pz
   obtain ⟨⟨z0, f0⟩, ⟨z1, f1⟩, ⟨z2, f2⟩, ⟨z3, f3⟩, ⟨z4, f4⟩, ⟨z5, f5⟩⟩ : (_ ∧ _) ∧ (_ ∧ _) ∧ (_ ∧ _) ∧ (_ ∧ _) ∧ (_ ∧ _) ∧ (_ ∧ _) := ⟨R7.2 0 _ rfl, R7.2 1 _ rfl, R7.2 2 _ rfl, R7.2 3 _ rfl, R7.2 4 _ rfl, R7.2 5 _ rfl⟩
   have ZZ := dH ((((((R7.put 0 (.int .i64 m.bye)).put 1 (.int .i64 m.epoch)).put 2 (.slice q.sa m.sealed.length q.sc)).put 3 (.slice q.ea m.seen.length q.ec)).put 4 (.bool m.planned)).put 5 (.slice na (m.wrote.length + 1) nc))
   have OO := dH ((((((O7.far (b := w.heap.size + 1) (o := 0) (.inl (by omega)) (.int .i64 m.bye)).far (b := w.heap.size + 1) (o := 1) (.inl (by omega)) (.int .i64 m.epoch)).far (b := w.heap.size + 1) (o := 2) (.inl (by omega)) (.slice q.sa m.sealed.length q.sc)).far (b := w.heap.size + 1) (o := 3) (.inl (by omega)) (.slice q.ea m.seen.length q.ec)).far (b := w.heap.size + 1) (o := 4) (.inl (by omega)) (.bool m.planned)).far (b := w.heap.size + 1) (o := 5) (.inl (by omega)) (.slice na (m.wrote.length + 1) nc))
   have CC := dH ((((((C7.setNew4 (b := w.heap.size + 1) (by omega) 0 (.int .i64 m.bye)).setNew4 (b := w.heap.size + 1) (by omega) 1 (.int .i64 m.epoch)).setNew4 (b := w.heap.size + 1) (by omega) 2 (.slice q.sa m.sealed.length q.sc)).setNew4 (b := w.heap.size + 1) (by omega) 3 (.slice q.ea m.seen.length q.ec)).setNew4 (b := w.heap.size + 1) (by omega) 4 (.bool m.planned)).setNew4 (b := w.heap.size + 1) (by omega) 5 (.slice na (m.wrote.length + 1) nc))
   have DD := dH ((((((D7.setNew (b := w.heap.size + 1) (by omega) 0 (.int .i64 m.bye)).setNew (b := w.heap.size + 1) (by omega) 1 (.int .i64 m.epoch)).setNew (b := w.heap.size + 1) (by omega) 2 (.slice q.sa m.sealed.length q.sc)).setNew (b := w.heap.size + 1) (by omega) 3 (.slice q.ea m.seen.length q.ec)).setNew (b := w.heap.size + 1) (by omega) 4 (.bool m.planned)).setNew (b := w.heap.size + 1) (by omega) 5 (.slice na (m.wrote.length + 1) nc))
   have hV : w5.heap.size = ((((((w5.setCell ⟨w.heap.size + 1, 0, none⟩ (.int .i64 m.bye)).setCell ⟨w.heap.size + 1, 1, none⟩ (.int .i64 m.epoch)).setCell ⟨w.heap.size + 1, 2, none⟩ (.slice q.sa m.sealed.length q.sc)).setCell ⟨w.heap.size + 1, 3, none⟩ (.slice q.ea m.seen.length q.ec)).setCell ⟨w.heap.size + 1, 4, none⟩ (.bool m.planned)).setCell ⟨w.heap.size + 1, 5, none⟩ (.slice na (m.wrote.length + 1) nc)).heap.size := by simp
   clear O7 C7 D7 R7
   go_wp2_with fail
   generalize ((((((w5.setCell ⟨w.heap.size + 1, 0, none⟩ (.int .i64 m.bye)).setCell ⟨w.heap.size + 1, 1, none⟩ (.int .i64 m.epoch)).setCell ⟨w.heap.size + 1, 2, none⟩ (.slice q.sa m.sealed.length q.sc)).setCell ⟨w.heap.size + 1, 3, none⟩ (.slice q.ea m.seen.length q.ec)).setCell ⟨w.heap.size + 1, 4, none⟩ (.bool m.planned)).setCell ⟨w.heap.size + 1, 5, none⟩ (.slice na (m.wrote.length + 1) nc)) = V at *
   have q0 := ((dU ZZ).2 0 _ rfl).1
   have q1 := ((dU ZZ).2 1 _ rfl).1
   have q2 := ((dU ZZ).2 2 _ rfl).1
   have q3 := ((dU ZZ).2 3 _ rfl).1
   have q4 := ((dU ZZ).2 4 _ rfl).1
   have q5 := ((dU ZZ).2 5 _ rfl).1
   refine bodyPost_ret (v := .agg #[.int .i64 m.bye, .int .i64 m.epoch, .slice q.sa m.sealed.length q.sc, .slice q.ea m.seen.length q.ec, .bool m.planned, .slice na (m.wrote.length + 1) nc]) (by simp [results, Tryz.results67, go_sem, q0, q1, q2, q3, q4, q5]) rfl ⟨?_, dU CC, dU DD⟩
   rw [hV] at OO
   have e8 : (m.wrote ++ [zs]).length = m.wrote.length + 1 := by simp
   rw [← e8]
   refine ⟨⟨m.bye, m.epoch, m.sealed, m.seen, m.planned, m.wrote ++ [zs]⟩, ⟨q.sa, q.sc, q.ea, q.ec, na, nc⟩, rfl, MIn.mend (m := ⟨m.bye, m.epoch, m.sealed, m.seen, m.planned, m.wrote ++ [zs]⟩) (rs := rs ++ [⟨ya, yc, zs⟩]) ?_ ?_, ⟨⟨(dU F4).1.1, (dU F4).1.2.1, (dU F4).1.2.2.1, (dU F4).1.2.2.2.1, fun l hl z hz' => ?_⟩, (dU F4).2.1, (dU F4).n.2.2.1, ?_, fun l hl => ?_⟩⟩
   ·simp only
    rw [e8]
    exact (dU OO).wide (by omega) (Nat.le_refl _)
   ·simp [dU E9]
   ·rcases List.mem_append.1 hl with r | r
    ·exact (dU F4).1.2.2.2.2 l r z hz'
    ·obtain rfl : l = zs := by simpa using r
     have := hz z hz'
     exact ⟨by omega, by omega⟩
   ·simp only
    rw [e8]
    have := (dU F4).2.2.2.1
    omega
   ·rcases List.mem_append.1 hl with r | r
    ·exact (dU F4).2.2.2.2 l r
    ·obtain rfl : l = zs := by simpa using r
     omega
  ·go_simp
   refine (l4DrawNodes_any bk (.slice ca ds.length cc) ds cop wd hcd Nd hl).mono ?_
   rintro e wd' ⟨⟨u4, zs, rfl, A4, hzl, hz⟩, hc4, hd4⟩
   have N4 := ownN_of_row A4
   obtain ⟨-, ya, yc, rfl, -, -⟩ := N4.bs
   have N5 := N4.mono hsz
   replace Dd := Dd.trans hd4
   replace Xd := Xd.drawn hd4 (by omega)
   replace Nd := Nd.drawn hd4 hne
   replace Rd := Rd.drawn hd4 (by omega)
   replace Md := Md.drawn hd4 (by omega)
   replace Od := Od.same fun k h3 h4 => hd4.block k (by omega) (by omega)
   have hcd' := hc4
   replace hsz : w3.heap.size ≤ wd'.heap.size := Nat.le_trans hsz hd4.size
   clear A4 N4 hc4 hd4 hcd
   try clear ol
   generalize wd' = wd at *
   have hcd := hcd'
   clear hcd'
   (try go_wp2_with fail)
   refine hK.out _ _ (by first | exact ⟨Xd 0 _ rfl, Xd 1 _ rfl⟩ | exact pz | exact py | go_keep) (fun hHeld => ?_)
   clear hK K
   try simp only [Act.put, sA, sB, sC]
   refine wpAnyH_ready (rs := [1, 5]) (by kernel_rfl) (by simp) ?_
   refine rC rfl (fun K hK => ?_) (rC rfl (fun K hK => ?_) AllReadyH.nil)
   ·have ol := (Md.2 5 _ rfl).1
    go_simp
    refine hK.out _ _ (by first | exact ⟨Xd 0 _ rfl, Xd 1 _ rfl⟩ | exact pz | exact py | go_keep) (fun hHeld => ?_)
    clear hK K
    try simp only [Act.put, sA, sB, sC]
    refine wpAnyH_ready (rs := [5]) (by kernel_rfl) (by simp) ?_
    refine rC rfl (fun K hK => ?_) AllReadyH.nil
    go_simp
    have RW := rwL_one wd ⟨ya, yc, zs⟩ 24 1 (by omega)
    have bs := ba wd (.cells #[.slice ya zs.length yc] 24)
    have es2 : (wd.alloc (.cells #[.slice ya zs.length yc] 24)).heap.size = wd.heap.size + 1 := by simp
    replace Dd := Dd.trans (Drawn.of_below bs)
    replace Xd := Xd.below bs
    replace Nd := Nd.below bs
    replace Rd := Rd.below bs
    replace Md := Md.below bs
    replace Od := Od.below (by omega) bs
    have N6 := N5.below bs
    have hcd' := hcd.below bs
    replace hsz : w3.heap.size ≤ (wd.alloc (.cells #[.slice ya zs.length yc] 24)).heap.size := by omega
    clear N5 bs es2 hcd
    try clear ol
    generalize wd.heap.size = b4 at *
    generalize wd.alloc (.cells #[.slice ya zs.length yc] 24) = wd at *
    have hcd := hcd'
    clear hcd'
    refine hK.out _ _ (by first | exact ⟨Xd 0 _ rfl, Xd 1 _ rfl⟩ | exact pz | exact py | go_keep) (fun hHeld => ?_)
    clear hK K
    try simp only [Act.put, sA, sB, sC]
    refine wpAnyH_ready (rs := [6]) (by kernel_rfl) (by simp) ?_
    refine rC rfl (fun K hK => ?_) AllReadyH.nil
    have hrl : rs.length = m.wrote.length := by rw [← dU E9, List.length_map]
    have hwl := (dU F4).2.2.2.1
    obtain ⟨v5, w5, hrun, A5, g5, t5⟩ := run_apR elemL (w := wd) (ms := rs) (ns := [⟨ya, yc, zs⟩]) (base := w0.heap.size) 28 (v := .slice q.wa m.wrote.length q.wc) Od.l.1 (.slice (some ⟨b4, 0, none⟩) 1 1) RW (by simp; omega) (by simp; omega) (by omega)
    obtain ⟨na, nc, hv5⟩ := ApR.slice elemL A5
    rw [show (rs ++ [(⟨ya, yc, zs⟩ : Nst (List Int))]).length = m.wrote.length + 1 by simp; omega] at hv5
    subst hv5
    have s5 := g5.size
    have hTl : ∀ j, touch (.slice q.wa m.wrote.length q.wc) = some j → w0.heap.size ≤ j ∧ j < bt := fun j hj => ⟨(Od.l.1.touched elemL hj).1, Od.lh j hj⟩
    have O6 := Od.wroteApp (p := ⟨ya, yc, zs⟩) (B := w3.heap.size) (by omega) (by omega) hsz N6 g5 A5 t5
    have D6 := Dd.grown g5 (fun j hj => by have := (hTl j hj).1; omega)
    have R6 := Rd.grown g5 (fun e => by have := (hTl _ e).1; omega)
    have M6 := Md.grown g5 (fun e => by have := (hTl _ e).2; omega)
    have X6 := Xd.grown g5 (fun e => by have := (hTl _ e).1; omega)
    have C6 := hcd.grown g5 (fun j hj => by have := (hTl j hj).1; omega)
    have tb : touch (.slice na (m.wrote.length + 1) nc) ≠ some bt := by
     rcases t5 with r | r
     ·rw [r]; exact fun e => by have := (hTl _ e).2; omega
     ·exact fun e => by have := r _ e; omega
    refine op_appR _ _ 28 28 rfl _ _ rfl rfl hrun ?_
    have NBw := (Od.noM (b := bt) (.inl (Nat.le_refl _)))
    have NB : NoM bt (.slice q.sa m.sealed.length q.sc) (.slice q.ea m.seen.length q.ec) (.slice na (m.wrote.length + 1) nc) (rs ++ [⟨ya, yc, zs⟩]) m.sealed m.seen := ⟨NBw.1, NBw.2.1, tb, fun p hp => by
     rcases List.mem_append.1 hp with r | r
     ·exact NBw.2.2.2 p r
     ·obtain rfl : p = ⟨ya, yc, zs⟩ := by simpa using r
      rcases N6.ge with r2 | r2
      ·exact .inl r2
      ·exact .inr (by have r3 : w3.heap.size ≤ bO (Sv idL (⟨ya, yc, zs⟩ : Nst (List Int))) := r2; omega)⟩
    clear hrun A5 g5 t5 RW N6 Od Dd Rd Md Xd Nd hcd NBw hTl
    have Xd := X6
    generalize w5 = wd at *
    refine hK.out _ _ (by first | exact ⟨Xd 0 _ rfl, Xd 1 _ rfl⟩ | exact pz | exact py | go_keep) (fun hHeld => ?_)
    clear hK K
    try simp only [Act.put, sA, sB, sC]
    refine tY 7 (v := ?_) rfl (by kernel_rfl) (.inl ⟨by rfl, ?_⟩) ‹_› ?_
    rotate_left 1
    ·intro w hSw
     (try dsimp only at hSw)
     first | (go_simp; done) | (go_simp; with_reducible rfl)
    try simp only [Act.put, sA, sB, sC]
    refine wpAnyH_ready (rs := [8]) (by kernel_rfl) (by simp) ?_
    refine rC rfl (fun K hK => ?_) AllReadyH.nil
    obtain ⟨z9, g9⟩ := M6.2 5 _ rfl
    go_simp
    have M7 := M6.put 5 (.slice na (m.wrote.length + 1) nc)
    have R7 := R6.far (b' := bt) (o := 5) (by omega) (.slice na (m.wrote.length + 1) nc)
    have O7 := O6.setB (o := 5) NB (.slice na (m.wrote.length + 1) nc)
    have C7 := C6.setNew4 (b := bt) (by omega) 5 (.slice na (m.wrote.length + 1) nc)
    have D7 := D6.setNew (b := bt) (by omega) 5 (.slice na (m.wrote.length + 1) nc)
    have X7 := Xd.farB (b' := bt) (o := 5) (by omega) (.slice na (m.wrote.length + 1) nc)
    have s7 : wd.heap.size = (wd.setCell ⟨bt, 5, none⟩ (.slice na (m.wrote.length + 1) nc)).heap.size := by simp
    have hs9 : w3.heap.size ≤ wd.heap.size := by omega
    rw [s7] at O7
    clear z9 g9 M6 R6 O6 C6 D6 X6 Xd NB
    have Xd := X7
    clear X7
    generalize wd.setCell ⟨bt, 5, none⟩ (.slice na (m.wrote.length + 1) nc) = w5 at *
    refine hK.out _ _ (by first | exact ⟨Xd 0 _ rfl, Xd 1 _ rfl⟩ | exact pz | exact py | go_keep) (fun hHeld => ?_)
    clear hK K
    try simp only [Act.put, sA, sB, sC]
    refine wpAnyH_done (by kernel_rfl) ?_ _
    refine NoPanic.normal ?_
    have o0 := (M7.2 0 _ rfl).1
    have o1 := (M7.2 1 _ rfl).1
    have o2 := (M7.2 2 _ rfl).1
    have o3 := (M7.2 3 _ rfl).1
    have o4 := (M7.2 4 _ rfl).1
    have o5 := (M7.2 5 _ rfl).1
    clear M7 Xd py pz
    obtain ⟨⟨z0, f0⟩, ⟨z1, f1⟩, ⟨z2, f2⟩, ⟨z3, f3⟩, ⟨z4, f4⟩, ⟨z5, f5⟩⟩ : (_ ∧ _) ∧ (_ ∧ _) ∧ (_ ∧ _) ∧ (_ ∧ _) ∧ (_ ∧ _) ∧ (_ ∧ _) := ⟨R7.2 0 _ rfl, R7.2 1 _ rfl, R7.2 2 _ rfl, R7.2 3 _ rfl, R7.2 4 _ rfl, R7.2 5 _ rfl⟩
    have ZZ := dH ((((((R7.put 0 (.int .i64 m.bye)).put 1 (.int .i64 m.epoch)).put 2 (.slice q.sa m.sealed.length q.sc)).put 3 (.slice q.ea m.seen.length q.ec)).put 4 (.bool m.planned)).put 5 (.slice na (m.wrote.length + 1) nc))
    have OO := dH ((((((O7.far (b := w.heap.size + 1) (o := 0) (.inl (by omega)) (.int .i64 m.bye)).far (b := w.heap.size + 1) (o := 1) (.inl (by omega)) (.int .i64 m.epoch)).far (b := w.heap.size + 1) (o := 2) (.inl (by omega)) (.slice q.sa m.sealed.length q.sc)).far (b := w.heap.size + 1) (o := 3) (.inl (by omega)) (.slice q.ea m.seen.length q.ec)).far (b := w.heap.size + 1) (o := 4) (.inl (by omega)) (.bool m.planned)).far (b := w.heap.size + 1) (o := 5) (.inl (by omega)) (.slice na (m.wrote.length + 1) nc))
    have CC := dH ((((((C7.setNew4 (b := w.heap.size + 1) (by omega) 0 (.int .i64 m.bye)).setNew4 (b := w.heap.size + 1) (by omega) 1 (.int .i64 m.epoch)).setNew4 (b := w.heap.size + 1) (by omega) 2 (.slice q.sa m.sealed.length q.sc)).setNew4 (b := w.heap.size + 1) (by omega) 3 (.slice q.ea m.seen.length q.ec)).setNew4 (b := w.heap.size + 1) (by omega) 4 (.bool m.planned)).setNew4 (b := w.heap.size + 1) (by omega) 5 (.slice na (m.wrote.length + 1) nc))
    have DD := dH ((((((D7.setNew (b := w.heap.size + 1) (by omega) 0 (.int .i64 m.bye)).setNew (b := w.heap.size + 1) (by omega) 1 (.int .i64 m.epoch)).setNew (b := w.heap.size + 1) (by omega) 2 (.slice q.sa m.sealed.length q.sc)).setNew (b := w.heap.size + 1) (by omega) 3 (.slice q.ea m.seen.length q.ec)).setNew (b := w.heap.size + 1) (by omega) 4 (.bool m.planned)).setNew (b := w.heap.size + 1) (by omega) 5 (.slice na (m.wrote.length + 1) nc))
    have hV : w5.heap.size = ((((((w5.setCell ⟨w.heap.size + 1, 0, none⟩ (.int .i64 m.bye)).setCell ⟨w.heap.size + 1, 1, none⟩ (.int .i64 m.epoch)).setCell ⟨w.heap.size + 1, 2, none⟩ (.slice q.sa m.sealed.length q.sc)).setCell ⟨w.heap.size + 1, 3, none⟩ (.slice q.ea m.seen.length q.ec)).setCell ⟨w.heap.size + 1, 4, none⟩ (.bool m.planned)).setCell ⟨w.heap.size + 1, 5, none⟩ (.slice na (m.wrote.length + 1) nc)).heap.size := by simp
    clear O7 C7 D7 R7
    go_wp2_with fail
    generalize ((((((w5.setCell ⟨w.heap.size + 1, 0, none⟩ (.int .i64 m.bye)).setCell ⟨w.heap.size + 1, 1, none⟩ (.int .i64 m.epoch)).setCell ⟨w.heap.size + 1, 2, none⟩ (.slice q.sa m.sealed.length q.sc)).setCell ⟨w.heap.size + 1, 3, none⟩ (.slice q.ea m.seen.length q.ec)).setCell ⟨w.heap.size + 1, 4, none⟩ (.bool m.planned)).setCell ⟨w.heap.size + 1, 5, none⟩ (.slice na (m.wrote.length + 1) nc)) = V at *
    have q0 := ((dU ZZ).2 0 _ rfl).1
    have q1 := ((dU ZZ).2 1 _ rfl).1
    have q2 := ((dU ZZ).2 2 _ rfl).1
    have q3 := ((dU ZZ).2 3 _ rfl).1
    have q4 := ((dU ZZ).2 4 _ rfl).1
    have q5 := ((dU ZZ).2 5 _ rfl).1
    refine bodyPost_ret (v := .agg #[.int .i64 m.bye, .int .i64 m.epoch, .slice q.sa m.sealed.length q.sc, .slice q.ea m.seen.length q.ec, .bool m.planned, .slice na (m.wrote.length + 1) nc]) (by simp [results, Tryz.results67, go_sem, q0, q1, q2, q3, q4, q5]) rfl ⟨?_, dU CC, dU DD⟩
    rw [hV] at OO
    have e8 : (m.wrote ++ [zs]).length = m.wrote.length + 1 := by simp
    rw [← e8]
    refine ⟨⟨m.bye, m.epoch, m.sealed, m.seen, m.planned, m.wrote ++ [zs]⟩, ⟨q.sa, q.sc, q.ea, q.ec, na, nc⟩, rfl, MIn.mend (m := ⟨m.bye, m.epoch, m.sealed, m.seen, m.planned, m.wrote ++ [zs]⟩) (rs := rs ++ [⟨ya, yc, zs⟩]) ?_ ?_, ⟨⟨(dU F4).1.1, (dU F4).1.2.1, (dU F4).1.2.2.1, (dU F4).1.2.2.2.1, fun l hl z hz' => ?_⟩, (dU F4).2.1, (dU F4).n.2.2.1, ?_, fun l hl => ?_⟩⟩
    ·simp only
     rw [e8]
     exact (dU OO).wide (by omega) (Nat.le_refl _)
    ·simp [dU E9]
    ·rcases List.mem_append.1 hl with r | r
     ·exact (dU F4).1.2.2.2.2 l r z hz'
     ·obtain rfl : l = zs := by simpa using r
      have := hz z hz'
      exact ⟨by omega, by omega⟩
    ·simp only
     rw [e8]
     have := (dU F4).2.2.2.1
     omega
    ·rcases List.mem_append.1 hl with r | r
     ·exact (dU F4).2.2.2.2 l r
     ·obtain rfl : l = zs := by simpa using r
      omega
   ·go_simp
    have RW := rwL_one wd ⟨ya, yc, zs⟩ 24 1 (by omega)
    have bs := ba wd (.cells #[.slice ya zs.length yc] 24)
    have es2 : (wd.alloc (.cells #[.slice ya zs.length yc] 24)).heap.size = wd.heap.size + 1 := by simp
    replace Dd := Dd.trans (Drawn.of_below bs)
    replace Xd := Xd.below bs
    replace Nd := Nd.below bs
    replace Rd := Rd.below bs
    replace Md := Md.below bs
    replace Od := Od.below (by omega) bs
    have N6 := N5.below bs
    have hcd' := hcd.below bs
    replace hsz : w3.heap.size ≤ (wd.alloc (.cells #[.slice ya zs.length yc] 24)).heap.size := by omega
    clear N5 bs es2 hcd
    try clear ol
    generalize wd.heap.size = b4 at *
    generalize wd.alloc (.cells #[.slice ya zs.length yc] 24) = wd at *
    have hcd := hcd'
    clear hcd'
    refine hK.out _ _ (by first | exact ⟨Xd 0 _ rfl, Xd 1 _ rfl⟩ | exact pz | exact py | go_keep) (fun hHeld => ?_)
    clear hK K
    try simp only [Act.put, sA, sB, sC]
    refine wpAnyH_ready (rs := [1]) (by kernel_rfl) (by simp) ?_
    refine rC rfl (fun K hK => ?_) AllReadyH.nil
    have ol := (Md.2 5 _ rfl).1
    go_simp
    refine hK.out _ _ (by first | exact ⟨Xd 0 _ rfl, Xd 1 _ rfl⟩ | exact pz | exact py | go_keep) (fun hHeld => ?_)
    clear hK K
    try simp only [Act.put, sA, sB, sC]
    refine wpAnyH_ready (rs := [6]) (by kernel_rfl) (by simp) ?_
    refine rC rfl (fun K hK => ?_) AllReadyH.nil
    have hrl : rs.length = m.wrote.length := by rw [← dU E9, List.length_map]
    have hwl := (dU F4).2.2.2.1
    obtain ⟨v5, w5, hrun, A5, g5, t5⟩ := run_apR elemL (w := wd) (ms := rs) (ns := [⟨ya, yc, zs⟩]) (base := w0.heap.size) 28 (v := .slice q.wa m.wrote.length q.wc) Od.l.1 (.slice (some ⟨b4, 0, none⟩) 1 1) RW (by simp; omega) (by simp; omega) (by omega)
    obtain ⟨na, nc, hv5⟩ := ApR.slice elemL A5
    rw [show (rs ++ [(⟨ya, yc, zs⟩ : Nst (List Int))]).length = m.wrote.length + 1 by simp; omega] at hv5
    subst hv5
    have s5 := g5.size
    have hTl : ∀ j, touch (.slice q.wa m.wrote.length q.wc) = some j → w0.heap.size ≤ j ∧ j < bt := fun j hj => ⟨(Od.l.1.touched elemL hj).1, Od.lh j hj⟩
    have O6 := Od.wroteApp (p := ⟨ya, yc, zs⟩) (B := w3.heap.size) (by omega) (by omega) hsz N6 g5 A5 t5
    have D6 := Dd.grown g5 (fun j hj => by have := (hTl j hj).1; omega)
    have R6 := Rd.grown g5 (fun e => by have := (hTl _ e).1; omega)
    have M6 := Md.grown g5 (fun e => by have := (hTl _ e).2; omega)
    have X6 := Xd.grown g5 (fun e => by have := (hTl _ e).1; omega)
    have C6 := hcd.grown g5 (fun j hj => by have := (hTl j hj).1; omega)
    have tb : touch (.slice na (m.wrote.length + 1) nc) ≠ some bt := by
     rcases t5 with r | r
     ·rw [r]; exact fun e => by have := (hTl _ e).2; omega
     ·exact fun e => by have := r _ e; omega
    refine op_appR _ _ 28 28 rfl _ _ rfl rfl hrun ?_
    have NBw := (Od.noM (b := bt) (.inl (Nat.le_refl _)))
    have NB : NoM bt (.slice q.sa m.sealed.length q.sc) (.slice q.ea m.seen.length q.ec) (.slice na (m.wrote.length + 1) nc) (rs ++ [⟨ya, yc, zs⟩]) m.sealed m.seen := ⟨NBw.1, NBw.2.1, tb, fun p hp => by
     rcases List.mem_append.1 hp with r | r
     ·exact NBw.2.2.2 p r
     ·obtain rfl : p = ⟨ya, yc, zs⟩ := by simpa using r
      rcases N6.ge with r2 | r2
      ·exact .inl r2
      ·exact .inr (by have r3 : w3.heap.size ≤ bO (Sv idL (⟨ya, yc, zs⟩ : Nst (List Int))) := r2; omega)⟩
    clear hrun A5 g5 t5 RW N6 Od Dd Rd Md Xd Nd hcd NBw hTl
    have Xd := X6
    generalize w5 = wd at *
    refine hK.out _ _ (by first | exact ⟨Xd 0 _ rfl, Xd 1 _ rfl⟩ | exact pz | exact py | go_keep) (fun hHeld => ?_)
    clear hK K
    try simp only [Act.put, sA, sB, sC]
    refine tY 7 (v := ?_) rfl (by kernel_rfl) (.inl ⟨by rfl, ?_⟩) ‹_› ?_
    rotate_left 1
    ·intro w hSw
     (try dsimp only at hSw)
     first | (go_simp; done) | (go_simp; with_reducible rfl)
    try simp only [Act.put, sA, sB, sC]
    refine wpAnyH_ready (rs := [8]) (by kernel_rfl) (by simp) ?_
    refine rC rfl (fun K hK => ?_) AllReadyH.nil
    obtain ⟨z9, g9⟩ := M6.2 5 _ rfl
    go_simp
    have M7 := M6.put 5 (.slice na (m.wrote.length + 1) nc)
    have R7 := R6.far (b' := bt) (o := 5) (by omega) (.slice na (m.wrote.length + 1) nc)
    have O7 := O6.setB (o := 5) NB (.slice na (m.wrote.length + 1) nc)
    have C7 := C6.setNew4 (b := bt) (by omega) 5 (.slice na (m.wrote.length + 1) nc)
    have D7 := D6.setNew (b := bt) (by omega) 5 (.slice na (m.wrote.length + 1) nc)
    have X7 := Xd.farB (b' := bt) (o := 5) (by omega) (.slice na (m.wrote.length + 1) nc)
    have s7 : wd.heap.size = (wd.setCell ⟨bt, 5, none⟩ (.slice na (m.wrote.length + 1) nc)).heap.size := by simp
    have hs9 : w3.heap.size ≤ wd.heap.size := by omega
    rw [s7] at O7
    clear z9 g9 M6 R6 O6 C6 D6 X6 Xd NB
    have Xd := X7
    clear X7
    generalize wd.setCell ⟨bt, 5, none⟩ (.slice na (m.wrote.length + 1) nc) = w5 at *
    refine hK.out _ _ (by first | exact ⟨Xd 0 _ rfl, Xd 1 _ rfl⟩ | exact pz | exact py | go_keep) (fun hHeld => ?_)
    clear hK K
    try simp only [Act.put, sA, sB, sC]
    refine wpAnyH_done (by kernel_rfl) ?_ _
    refine NoPanic.normal ?_
    have o0 := (M7.2 0 _ rfl).1
    have o1 := (M7.2 1 _ rfl).1
    have o2 := (M7.2 2 _ rfl).1
    have o3 := (M7.2 3 _ rfl).1
    have o4 := (M7.2 4 _ rfl).1
    have o5 := (M7.2 5 _ rfl).1
    clear M7 Xd py pz
    obtain ⟨⟨z0, f0⟩, ⟨z1, f1⟩, ⟨z2, f2⟩, ⟨z3, f3⟩, ⟨z4, f4⟩, ⟨z5, f5⟩⟩ : (_ ∧ _) ∧ (_ ∧ _) ∧ (_ ∧ _) ∧ (_ ∧ _) ∧ (_ ∧ _) ∧ (_ ∧ _) := ⟨R7.2 0 _ rfl, R7.2 1 _ rfl, R7.2 2 _ rfl, R7.2 3 _ rfl, R7.2 4 _ rfl, R7.2 5 _ rfl⟩
    have ZZ := dH ((((((R7.put 0 (.int .i64 m.bye)).put 1 (.int .i64 m.epoch)).put 2 (.slice q.sa m.sealed.length q.sc)).put 3 (.slice q.ea m.seen.length q.ec)).put 4 (.bool m.planned)).put 5 (.slice na (m.wrote.length + 1) nc))
    have OO := dH ((((((O7.far (b := w.heap.size + 1) (o := 0) (.inl (by omega)) (.int .i64 m.bye)).far (b := w.heap.size + 1) (o := 1) (.inl (by omega)) (.int .i64 m.epoch)).far (b := w.heap.size + 1) (o := 2) (.inl (by omega)) (.slice q.sa m.sealed.length q.sc)).far (b := w.heap.size + 1) (o := 3) (.inl (by omega)) (.slice q.ea m.seen.length q.ec)).far (b := w.heap.size + 1) (o := 4) (.inl (by omega)) (.bool m.planned)).far (b := w.heap.size + 1) (o := 5) (.inl (by omega)) (.slice na (m.wrote.length + 1) nc))
    have CC := dH ((((((C7.setNew4 (b := w.heap.size + 1) (by omega) 0 (.int .i64 m.bye)).setNew4 (b := w.heap.size + 1) (by omega) 1 (.int .i64 m.epoch)).setNew4 (b := w.heap.size + 1) (by omega) 2 (.slice q.sa m.sealed.length q.sc)).setNew4 (b := w.heap.size + 1) (by omega) 3 (.slice q.ea m.seen.length q.ec)).setNew4 (b := w.heap.size + 1) (by omega) 4 (.bool m.planned)).setNew4 (b := w.heap.size + 1) (by omega) 5 (.slice na (m.wrote.length + 1) nc))
    have DD := dH ((((((D7.setNew (b := w.heap.size + 1) (by omega) 0 (.int .i64 m.bye)).setNew (b := w.heap.size + 1) (by omega) 1 (.int .i64 m.epoch)).setNew (b := w.heap.size + 1) (by omega) 2 (.slice q.sa m.sealed.length q.sc)).setNew (b := w.heap.size + 1) (by omega) 3 (.slice q.ea m.seen.length q.ec)).setNew (b := w.heap.size + 1) (by omega) 4 (.bool m.planned)).setNew (b := w.heap.size + 1) (by omega) 5 (.slice na (m.wrote.length + 1) nc))
    have hV : w5.heap.size = ((((((w5.setCell ⟨w.heap.size + 1, 0, none⟩ (.int .i64 m.bye)).setCell ⟨w.heap.size + 1, 1, none⟩ (.int .i64 m.epoch)).setCell ⟨w.heap.size + 1, 2, none⟩ (.slice q.sa m.sealed.length q.sc)).setCell ⟨w.heap.size + 1, 3, none⟩ (.slice q.ea m.seen.length q.ec)).setCell ⟨w.heap.size + 1, 4, none⟩ (.bool m.planned)).setCell ⟨w.heap.size + 1, 5, none⟩ (.slice na (m.wrote.length + 1) nc)).heap.size := by simp
    clear O7 C7 D7 R7
    go_wp2_with fail
    generalize ((((((w5.setCell ⟨w.heap.size + 1, 0, none⟩ (.int .i64 m.bye)).setCell ⟨w.heap.size + 1, 1, none⟩ (.int .i64 m.epoch)).setCell ⟨w.heap.size + 1, 2, none⟩ (.slice q.sa m.sealed.length q.sc)).setCell ⟨w.heap.size + 1, 3, none⟩ (.slice q.ea m.seen.length q.ec)).setCell ⟨w.heap.size + 1, 4, none⟩ (.bool m.planned)).setCell ⟨w.heap.size + 1, 5, none⟩ (.slice na (m.wrote.length + 1) nc)) = V at *
    have q0 := ((dU ZZ).2 0 _ rfl).1
    have q1 := ((dU ZZ).2 1 _ rfl).1
    have q2 := ((dU ZZ).2 2 _ rfl).1
    have q3 := ((dU ZZ).2 3 _ rfl).1
    have q4 := ((dU ZZ).2 4 _ rfl).1
    have q5 := ((dU ZZ).2 5 _ rfl).1
    refine bodyPost_ret (v := .agg #[.int .i64 m.bye, .int .i64 m.epoch, .slice q.sa m.sealed.length q.sc, .slice q.ea m.seen.length q.ec, .bool m.planned, .slice na (m.wrote.length + 1) nc]) (by simp [results, Tryz.results67, go_sem, q0, q1, q2, q3, q4, q5]) rfl ⟨?_, dU CC, dU DD⟩
    rw [hV] at OO
    have e8 : (m.wrote ++ [zs]).length = m.wrote.length + 1 := by simp
    rw [← e8]
    refine ⟨⟨m.bye, m.epoch, m.sealed, m.seen, m.planned, m.wrote ++ [zs]⟩, ⟨q.sa, q.sc, q.ea, q.ec, na, nc⟩, rfl, MIn.mend (m := ⟨m.bye, m.epoch, m.sealed, m.seen, m.planned, m.wrote ++ [zs]⟩) (rs := rs ++ [⟨ya, yc, zs⟩]) ?_ ?_, ⟨⟨(dU F4).1.1, (dU F4).1.2.1, (dU F4).1.2.2.1, (dU F4).1.2.2.2.1, fun l hl z hz' => ?_⟩, (dU F4).2.1, (dU F4).n.2.2.1, ?_, fun l hl => ?_⟩⟩
    ·simp only
     rw [e8]
     exact (dU OO).wide (by omega) (Nat.le_refl _)
    ·simp [dU E9]
    ·rcases List.mem_append.1 hl with r | r
     ·exact (dU F4).1.2.2.2.2 l r z hz'
     ·obtain rfl : l = zs := by simpa using r
      have := hz z hz'
      exact ⟨by omega, by omega⟩
    ·simp only
     rw [e8]
     have := (dU F4).2.2.2.1
     omega
    ·rcases List.mem_append.1 hl with r | r
     ·exact (dU F4).2.2.2.2 l r
     ·obtain rfl : l = zs := by simpa using r
      omega
 by_cases h3 : t = 3
 ·have n0 : ((t : Int) == 0) = false := by first | (simp; omega) | (rw [beq_eq_false_iff_ne]; omega) | (rw [beq_iff_eq]; omega)
  have n1 : ((t : Int) == 1) = false := by first | (simp; omega) | (rw [beq_eq_false_iff_ne]; omega) | (rw [beq_iff_eq]; omega)
  have n2 : ((t : Int) == 2) = false := by first | (simp; omega) | (rw [beq_eq_false_iff_ne]; omega) | (rw [beq_iff_eq]; omega)
  have n3 : ((t : Int) == 3) = true := by first | (simp; omega) | (rw [beq_eq_false_iff_ne]; omega) | (rw [beq_iff_eq]; omega)
  have F4 := dH F1
  have hbt5 : bt < w3.heap.size := by omega
  have bdr : Below w3.heap.size w3 w3.drew := (Below.refl _ _).drew
  have hcd := hc3.below bdr
  have Dd := D3.trans (Drawn.of_below bdr)
  have Xd := X3.below bdr
  have Nd := N3.below bdr
  have Rd := R3.below bdr
  have Md := M3.below bdr
  have Od := O3.below (by omega) bdr
  have hsz : w3.heap.size ≤ w3.drew.heap.size := bdr.size
  have py : w3.cell? ⟨w.heap.size, 0, none⟩ = some (.slice ca ds.length cc) ∧ w3.cell? ⟨w.heap.size, 1, none⟩ = some (.int .i64 cop) := ⟨X3 0 _ rfl, X3 1 _ rfl⟩
  have pz : w3.drew.cell? ⟨w.heap.size, 0, none⟩ = some (.slice ca ds.length cc) ∧ w3.drew.cell? ⟨w.heap.size, 1, none⟩ = some (.int .i64 cop) := ⟨Xd 0 _ rfl, Xd 1 _ rfl⟩
  go_wp2_with fail
  refine wp_region_noPanic ?_
  refine wp_region_held_drew (S := fun W => W.cell? ⟨w.heap.size, 0, none⟩ = some (.slice ca ds.length cc) ∧ W.cell? ⟨w.heap.size, 1, none⟩ = some (.int .i64 cop)) (by kernel_rfl) (by first | exact ⟨Xd 0 _ rfl, Xd 1 _ rfl⟩ | exact pz | exact py | go_keep) (fun hHeld => ?_)
  clear hc3 D3 X3 N3 R3 M3 O3
  generalize w3.drew = wd at *
  refine tY 0 (v := ?_) rfl (by kernel_rfl) (.inl ⟨by rfl, ?_⟩) ‹_› ?_
  rotate_left 1
  ·intro w hSw
   (try dsimp only at hSw)
   first | (go_simp; done) | (go_simp; with_reducible rfl)
  try simp only [Act.put, sA, sB, sC]
  refine tY 2 (v := ?_) rfl (by kernel_rfl) (.inl ⟨by rfl, ?_⟩) ‹_› ?_
  rotate_left 1
  ·intro w hSw
   (try dsimp only at hSw)
   first | (go_simp; done) | (go_simp; with_reducible rfl)
  try simp only [Act.put, sA, sB, sC]
  refine wpAnyH_ready (rs := [1, 3]) (by kernel_rfl) (by simp) ?_
  refine rC rfl (fun K hK => ?_) (rC rfl (fun K hK => ?_) AllReadyH.nil)
  ·have ol := (Md.2 3 _ rfl).1
   go_simp
   refine hK.out _ _ (by first | exact ⟨Xd 0 _ rfl, Xd 1 _ rfl⟩ | exact pz | exact py | go_keep) (fun hHeld => ?_)
   clear hK K
   try simp only [Act.put, sA, sB, sC]
   refine wpAnyH_ready (rs := [3]) (by kernel_rfl) (by simp) ?_
   refine rC rfl (fun K hK => ?_) AllReadyH.nil
   go_simp
   refine (l3Draw_flat bk wd hcd).mono ?_
   rintro e wd' ⟨⟨yp, yw, yh, yd, ⟨hfy, hdy⟩, rfl⟩, hc4, hd4⟩
   replace Dd := Dd.trans hd4
   replace Xd := Xd.drawn hd4 (by omega)
   replace Nd := Nd.drawn hd4 hne
   replace Rd := Rd.drawn hd4 (by omega)
   replace Md := Md.drawn hd4 (by omega)
   replace Od := Od.same fun k h3 h4 => hd4.block k (by omega) (by omega)
   have hcd' := hc4
   replace hsz : w3.heap.size ≤ wd'.heap.size := Nat.le_trans hsz hd4.size
   clear hc4 hd4 hcd
   try clear ol
   generalize wd' = wd at *
   have hcd := hcd'
   clear hcd'
   (try go_wp2_with fail)
   refine hK.out _ _ (by first | exact ⟨Xd 0 _ rfl, Xd 1 _ rfl⟩ | exact pz | exact py | go_keep) (fun hHeld => ?_)
   clear hK K
   try simp only [Act.put, sA, sB, sC]
   refine wpAnyH_ready (rs := [4]) (by kernel_rfl) (by simp) ?_
   refine rC rfl (fun K hK => ?_) AllReadyH.nil
   go_simp
   have RW := rw_one wd ⟨yp, yw, yh, yd⟩ 36 1 (by omega)
   have bs := ba wd (.cells #[.int .i64 yp, .int .i64 yw, .bool yh, .string yd] 36)
   have es2 : (wd.alloc (.cells #[.int .i64 yp, .int .i64 yw, .bool yh, .string yd] 36)).heap.size = wd.heap.size + 1 := by simp
   replace Dd := Dd.trans (Drawn.of_below bs)
   replace Xd := Xd.below bs
   replace Nd := Nd.below bs
   replace Rd := Rd.below bs
   replace Md := Md.below bs
   replace Od := Od.below (by omega) bs
   have hcd' := hcd.below bs
   replace hsz : w3.heap.size ≤ (wd.alloc (.cells #[.int .i64 yp, .int .i64 yw, .bool yh, .string yd] 36)).heap.size := by omega
   clear bs es2 hcd
   try clear ol
   generalize wd.heap.size = b4 at *
   generalize wd.alloc (.cells #[.int .i64 yp, .int .i64 yw, .bool yh, .string yd] 36) = wd at *
   have hcd := hcd'
   clear hcd'
   refine hK.out _ _ (by first | exact ⟨Xd 0 _ rfl, Xd 1 _ rfl⟩ | exact pz | exact py | go_keep) (fun hHeld => ?_)
   clear hK K
   try simp only [Act.put, sA, sB, sC]
   refine wpAnyH_ready (rs := [5]) (by kernel_rfl) (by simp) ?_
   refine rC rfl (fun K hK => ?_) AllReadyH.nil
   have hwl := (dU F4).2.2.1.1
   obtain ⟨v5, w5, hrun, A5, g5, t5⟩ := run_apR elemE (w := wd) (ms := m.seen) (ns := [⟨yp, yw, yh, yd⟩]) (base := w0.heap.size) 27 (v := .slice q.ea m.seen.length q.ec) Od.e.1 (.slice (some ⟨b4, 0, none⟩) 1 1) RW (by simp; omega) (by simp; omega) (by omega)
   obtain ⟨na, nc, hv5⟩ := ApR.slice elemE A5
   rw [show (m.seen ++ [(⟨yp, yw, yh, yd⟩ : Ent)]).length = m.seen.length + 1 by simp] at hv5
   subst hv5
   have s5 := g5.size
   have hTl : ∀ j, touch (.slice q.ea m.seen.length q.ec) = some j → w0.heap.size ≤ j ∧ j < bt := fun j hj => by
    obtain ⟨r1, r2⟩ := Od.e.touch hj
    subst r2
    exact ⟨Od.e.ge.resolve_left r1, Od.eh.resolve_left r1⟩
   have O6 := Od.seenApp (by omega) g5 A5 t5
   have D6 := Dd.grown g5 (fun j hj => by have := (hTl j hj).1; omega)
   have R6 := Rd.grown g5 (fun e => by have := (hTl _ e).1; omega)
   have M6 := Md.grown g5 (fun e => by have := (hTl _ e).2; omega)
   have X6 := Xd.grown g5 (fun e => by have := (hTl _ e).1; omega)
   have C6 := hcd.grown g5 (fun j hj => by have := (hTl j hj).1; omega)
   have tb : touch (.slice na (m.seen.length + 1) nc) ≠ some bt := by
    rcases t5 with r | r
    ·rw [r]; exact fun e => by have := (hTl _ e).2; omega
    ·exact fun e => by have := r _ e; omega
   refine op_appR _ _ 27 27 rfl _ _ rfl rfl hrun ?_
   have NBw := (Od.noM (b := bt) (.inl (Nat.le_refl _)))
   have NB : NoM bt (.slice q.sa m.sealed.length q.sc) (.slice na (m.seen.length + 1) nc) (.slice q.wa m.wrote.length q.wc) rs m.sealed (m.seen ++ [⟨yp, yw, yh, yd⟩]) := ⟨NBw.1, .inr (fun e => tb ((touchE_at A5 (by simp)).trans (by rw [e]))), NBw.2.2⟩
   clear hrun A5 g5 t5 RW Od Dd Rd Md Xd Nd hcd NBw hTl
   have Xd := X6
   generalize w5 = wd at *
   refine hK.out _ _ (by first | exact ⟨Xd 0 _ rfl, Xd 1 _ rfl⟩ | exact pz | exact py | go_keep) (fun hHeld => ?_)
   clear hK K
   try simp only [Act.put, sA, sB, sC]
   refine tY 6 (v := ?_) rfl (by kernel_rfl) (.inl ⟨by rfl, ?_⟩) ‹_› ?_
   rotate_left 1
   ·intro w hSw
    (try dsimp only at hSw)
    first | (go_simp; done) | (go_simp; with_reducible rfl)
   try simp only [Act.put, sA, sB, sC]
   refine wpAnyH_ready (rs := [7]) (by kernel_rfl) (by simp) ?_
   refine rC rfl (fun K hK => ?_) AllReadyH.nil
   obtain ⟨z9, g9⟩ := M6.2 3 _ rfl
   go_simp
   have M7 := M6.put 3 (.slice na (m.seen.length + 1) nc)
   have R7 := R6.far (b' := bt) (o := 3) (by omega) (.slice na (m.seen.length + 1) nc)
   have O7 := O6.setB (o := 3) NB (.slice na (m.seen.length + 1) nc)
   have C7 := C6.setNew4 (b := bt) (by omega) 3 (.slice na (m.seen.length + 1) nc)
   have D7 := D6.setNew (b := bt) (by omega) 3 (.slice na (m.seen.length + 1) nc)
   have X7 := Xd.farB (b' := bt) (o := 3) (by omega) (.slice na (m.seen.length + 1) nc)
   have s7 : wd.heap.size = (wd.setCell ⟨bt, 3, none⟩ (.slice na (m.seen.length + 1) nc)).heap.size := by simp
   have hs9 : w3.heap.size ≤ wd.heap.size := by omega
   rw [s7] at O7
   clear z9 g9 M6 R6 O6 C6 D6 X6 Xd NB
   have Xd := X7
   clear X7
   generalize wd.setCell ⟨bt, 3, none⟩ (.slice na (m.seen.length + 1) nc) = w5 at *
   refine hK.out _ _ (by first | exact ⟨Xd 0 _ rfl, Xd 1 _ rfl⟩ | exact pz | exact py | go_keep) (fun hHeld => ?_)
   clear hK K
   try simp only [Act.put, sA, sB, sC]
   refine wpAnyH_done (by kernel_rfl) ?_ _
   refine NoPanic.normal ?_
   have o0 := (M7.2 0 _ rfl).1
   have o1 := (M7.2 1 _ rfl).1
   have o2 := (M7.2 2 _ rfl).1
   have o3 := (M7.2 3 _ rfl).1
   have o4 := (M7.2 4 _ rfl).1
   have o5 := (M7.2 5 _ rfl).1
   clear M7 Xd py pz
   obtain ⟨⟨z0, f0⟩, ⟨z1, f1⟩, ⟨z2, f2⟩, ⟨z3, f3⟩, ⟨z4, f4⟩, ⟨z5, f5⟩⟩ : (_ ∧ _) ∧ (_ ∧ _) ∧ (_ ∧ _) ∧ (_ ∧ _) ∧ (_ ∧ _) ∧ (_ ∧ _) := ⟨R7.2 0 _ rfl, R7.2 1 _ rfl, R7.2 2 _ rfl, R7.2 3 _ rfl, R7.2 4 _ rfl, R7.2 5 _ rfl⟩
   have ZZ := dH ((((((R7.put 0 (.int .i64 m.bye)).put 1 (.int .i64 m.epoch)).put 2 (.slice q.sa m.sealed.length q.sc)).put 3 (.slice na (m.seen.length + 1) nc)).put 4 (.bool m.planned)).put 5 (.slice q.wa m.wrote.length q.wc))
   have OO := dH ((((((O7.far (b := w.heap.size + 1) (o := 0) (.inl (by omega)) (.int .i64 m.bye)).far (b := w.heap.size + 1) (o := 1) (.inl (by omega)) (.int .i64 m.epoch)).far (b := w.heap.size + 1) (o := 2) (.inl (by omega)) (.slice q.sa m.sealed.length q.sc)).far (b := w.heap.size + 1) (o := 3) (.inl (by omega)) (.slice na (m.seen.length + 1) nc)).far (b := w.heap.size + 1) (o := 4) (.inl (by omega)) (.bool m.planned)).far (b := w.heap.size + 1) (o := 5) (.inl (by omega)) (.slice q.wa m.wrote.length q.wc))
   have CC := dH ((((((C7.setNew4 (b := w.heap.size + 1) (by omega) 0 (.int .i64 m.bye)).setNew4 (b := w.heap.size + 1) (by omega) 1 (.int .i64 m.epoch)).setNew4 (b := w.heap.size + 1) (by omega) 2 (.slice q.sa m.sealed.length q.sc)).setNew4 (b := w.heap.size + 1) (by omega) 3 (.slice na (m.seen.length + 1) nc)).setNew4 (b := w.heap.size + 1) (by omega) 4 (.bool m.planned)).setNew4 (b := w.heap.size + 1) (by omega) 5 (.slice q.wa m.wrote.length q.wc))
   have DD := dH ((((((D7.setNew (b := w.heap.size + 1) (by omega) 0 (.int .i64 m.bye)).setNew (b := w.heap.size + 1) (by omega) 1 (.int .i64 m.epoch)).setNew (b := w.heap.size + 1) (by omega) 2 (.slice q.sa m.sealed.length q.sc)).setNew (b := w.heap.size + 1) (by omega) 3 (.slice na (m.seen.length + 1) nc)).setNew (b := w.heap.size + 1) (by omega) 4 (.bool m.planned)).setNew (b := w.heap.size + 1) (by omega) 5 (.slice q.wa m.wrote.length q.wc))
   have hV : w5.heap.size = ((((((w5.setCell ⟨w.heap.size + 1, 0, none⟩ (.int .i64 m.bye)).setCell ⟨w.heap.size + 1, 1, none⟩ (.int .i64 m.epoch)).setCell ⟨w.heap.size + 1, 2, none⟩ (.slice q.sa m.sealed.length q.sc)).setCell ⟨w.heap.size + 1, 3, none⟩ (.slice na (m.seen.length + 1) nc)).setCell ⟨w.heap.size + 1, 4, none⟩ (.bool m.planned)).setCell ⟨w.heap.size + 1, 5, none⟩ (.slice q.wa m.wrote.length q.wc)).heap.size := by simp
   clear O7 C7 D7 R7
   go_wp2_with fail
   generalize ((((((w5.setCell ⟨w.heap.size + 1, 0, none⟩ (.int .i64 m.bye)).setCell ⟨w.heap.size + 1, 1, none⟩ (.int .i64 m.epoch)).setCell ⟨w.heap.size + 1, 2, none⟩ (.slice q.sa m.sealed.length q.sc)).setCell ⟨w.heap.size + 1, 3, none⟩ (.slice na (m.seen.length + 1) nc)).setCell ⟨w.heap.size + 1, 4, none⟩ (.bool m.planned)).setCell ⟨w.heap.size + 1, 5, none⟩ (.slice q.wa m.wrote.length q.wc)) = V at *
   have q0 := ((dU ZZ).2 0 _ rfl).1
   have q1 := ((dU ZZ).2 1 _ rfl).1
   have q2 := ((dU ZZ).2 2 _ rfl).1
   have q3 := ((dU ZZ).2 3 _ rfl).1
   have q4 := ((dU ZZ).2 4 _ rfl).1
   have q5 := ((dU ZZ).2 5 _ rfl).1
   refine bodyPost_ret (v := .agg #[.int .i64 m.bye, .int .i64 m.epoch, .slice q.sa m.sealed.length q.sc, .slice na (m.seen.length + 1) nc, .bool m.planned, .slice q.wa m.wrote.length q.wc]) (by simp [results, Tryz.results67, go_sem, q0, q1, q2, q3, q4, q5]) rfl ⟨?_, dU CC, dU DD⟩
   rw [hV] at OO
   have e8 : (m.seen ++ [(⟨yp, yw, yh, yd⟩ : Ent)]).length = m.seen.length + 1 := by simp
   rw [← e8]
   refine ⟨⟨m.bye, m.epoch, m.sealed, m.seen ++ [⟨yp, yw, yh, yd⟩], m.planned, m.wrote⟩, ⟨q.sa, q.sc, na, nc, q.wa, q.wc⟩, rfl, MIn.mend (m := ⟨m.bye, m.epoch, m.sealed, m.seen ++ [⟨yp, yw, yh, yd⟩], m.planned, m.wrote⟩) (rs := rs) ?_ (dU E9), ⟨⟨(dU F4).1.1, (dU F4).1.2.1, (dU F4).1.2.2.1, fun e he => ?_, (dU F4).1.2.2.2.2⟩, (dU F4).2.1, ⟨?_, fun e he => ?_⟩, (dU F4).n.2.2.2⟩⟩
   ·simp only
    rw [e8]
    exact (dU OO).wide (by omega) (Nat.le_refl _)
   ·rcases List.mem_append.1 he with r | r
    ·exact (dU F4).1.2.2.2.1 e r
    ·obtain rfl : e = ⟨yp, yw, yh, yd⟩ := by simpa using r
     exact hfy
   ·simp only
    rw [e8]
    have := (dU F4).2.2.1.1
    omega
   ·rcases List.mem_append.1 he with r | r
    ·exact (dU F4).2.2.1.2 e r
    ·obtain rfl : e = ⟨yp, yw, yh, yd⟩ := by simpa using r
     simp only
     omega
  ·go_simp
   refine (l3Draw_flat bk wd hcd).mono ?_
   rintro e wd' ⟨⟨yp, yw, yh, yd, ⟨hfy, hdy⟩, rfl⟩, hc4, hd4⟩
   replace Dd := Dd.trans hd4
   replace Xd := Xd.drawn hd4 (by omega)
   replace Nd := Nd.drawn hd4 hne
   replace Rd := Rd.drawn hd4 (by omega)
   replace Md := Md.drawn hd4 (by omega)
   replace Od := Od.same fun k h3 h4 => hd4.block k (by omega) (by omega)
   have hcd' := hc4
   replace hsz : w3.heap.size ≤ wd'.heap.size := Nat.le_trans hsz hd4.size
   clear hc4 hd4 hcd
   try clear ol
   generalize wd' = wd at *
   have hcd := hcd'
   clear hcd'
   (try go_wp2_with fail)
   refine hK.out _ _ (by first | exact ⟨Xd 0 _ rfl, Xd 1 _ rfl⟩ | exact pz | exact py | go_keep) (fun hHeld => ?_)
   clear hK K
   try simp only [Act.put, sA, sB, sC]
   refine wpAnyH_ready (rs := [1, 4]) (by kernel_rfl) (by simp) ?_
   refine rC rfl (fun K hK => ?_) (rC rfl (fun K hK => ?_) AllReadyH.nil)
   ·have ol := (Md.2 3 _ rfl).1
    go_simp
    refine hK.out _ _ (by first | exact ⟨Xd 0 _ rfl, Xd 1 _ rfl⟩ | exact pz | exact py | go_keep) (fun hHeld => ?_)
    clear hK K
    try simp only [Act.put, sA, sB, sC]
    refine wpAnyH_ready (rs := [4]) (by kernel_rfl) (by simp) ?_
    refine rC rfl (fun K hK => ?_) AllReadyH.nil
    go_simp
    have RW := rw_one wd ⟨yp, yw, yh, yd⟩ 36 1 (by omega)
    have bs := ba wd (.cells #[.int .i64 yp, .int .i64 yw, .bool yh, .string yd] 36)
    have es2 : (wd.alloc (.cells #[.int .i64 yp, .int .i64 yw, .bool yh, .string yd] 36)).heap.size = wd.heap.size + 1 := by simp
    replace Dd := Dd.trans (Drawn.of_below bs)
    replace Xd := Xd.below bs
    replace Nd := Nd.below bs
    replace Rd := Rd.below bs
    replace Md := Md.below bs
    replace Od := Od.below (by omega) bs
    have hcd' := hcd.below bs
    replace hsz : w3.heap.size ≤ (wd.alloc (.cells #[.int .i64 yp, .int .i64 yw, .bool yh, .string yd] 36)).heap.size := by omega
    clear bs es2 hcd
    try clear ol
    generalize wd.heap.size = b4 at *
    generalize wd.alloc (.cells #[.int .i64 yp, .int .i64 yw, .bool yh, .string yd] 36) = wd at *
    have hcd := hcd'
    clear hcd'
    refine hK.out _ _ (by first | exact ⟨Xd 0 _ rfl, Xd 1 _ rfl⟩ | exact pz | exact py | go_keep) (fun hHeld => ?_)
    clear hK K
    try simp only [Act.put, sA, sB, sC]
    refine wpAnyH_ready (rs := [5]) (by kernel_rfl) (by simp) ?_
    refine rC rfl (fun K hK => ?_) AllReadyH.nil
    have hwl := (dU F4).2.2.1.1
    obtain ⟨v5, w5, hrun, A5, g5, t5⟩ := run_apR elemE (w := wd) (ms := m.seen) (ns := [⟨yp, yw, yh, yd⟩]) (base := w0.heap.size) 27 (v := .slice q.ea m.seen.length q.ec) Od.e.1 (.slice (some ⟨b4, 0, none⟩) 1 1) RW (by simp; omega) (by simp; omega) (by omega)
    obtain ⟨na, nc, hv5⟩ := ApR.slice elemE A5
    rw [show (m.seen ++ [(⟨yp, yw, yh, yd⟩ : Ent)]).length = m.seen.length + 1 by simp] at hv5
    subst hv5
    have s5 := g5.size
    have hTl : ∀ j, touch (.slice q.ea m.seen.length q.ec) = some j → w0.heap.size ≤ j ∧ j < bt := fun j hj => by
     obtain ⟨r1, r2⟩ := Od.e.touch hj
     subst r2
     exact ⟨Od.e.ge.resolve_left r1, Od.eh.resolve_left r1⟩
    have O6 := Od.seenApp (by omega) g5 A5 t5
    have D6 := Dd.grown g5 (fun j hj => by have := (hTl j hj).1; omega)
    have R6 := Rd.grown g5 (fun e => by have := (hTl _ e).1; omega)
    have M6 := Md.grown g5 (fun e => by have := (hTl _ e).2; omega)
    have X6 := Xd.grown g5 (fun e => by have := (hTl _ e).1; omega)
    have C6 := hcd.grown g5 (fun j hj => by have := (hTl j hj).1; omega)
    have tb : touch (.slice na (m.seen.length + 1) nc) ≠ some bt := by
     rcases t5 with r | r
     ·rw [r]; exact fun e => by have := (hTl _ e).2; omega
     ·exact fun e => by have := r _ e; omega
    refine op_appR _ _ 27 27 rfl _ _ rfl rfl hrun ?_
    have NBw := (Od.noM (b := bt) (.inl (Nat.le_refl _)))
    have NB : NoM bt (.slice q.sa m.sealed.length q.sc) (.slice na (m.seen.length + 1) nc) (.slice q.wa m.wrote.length q.wc) rs m.sealed (m.seen ++ [⟨yp, yw, yh, yd⟩]) := ⟨NBw.1, .inr (fun e => tb ((touchE_at A5 (by simp)).trans (by rw [e]))), NBw.2.2⟩
    clear hrun A5 g5 t5 RW Od Dd Rd Md Xd Nd hcd NBw hTl
    have Xd := X6
    generalize w5 = wd at *
    refine hK.out _ _ (by first | exact ⟨Xd 0 _ rfl, Xd 1 _ rfl⟩ | exact pz | exact py | go_keep) (fun hHeld => ?_)
    clear hK K
    try simp only [Act.put, sA, sB, sC]
    refine tY 6 (v := ?_) rfl (by kernel_rfl) (.inl ⟨by rfl, ?_⟩) ‹_› ?_
    rotate_left 1
    ·intro w hSw
     (try dsimp only at hSw)
     first | (go_simp; done) | (go_simp; with_reducible rfl)
    try simp only [Act.put, sA, sB, sC]
    refine wpAnyH_ready (rs := [7]) (by kernel_rfl) (by simp) ?_
    refine rC rfl (fun K hK => ?_) AllReadyH.nil
    obtain ⟨z9, g9⟩ := M6.2 3 _ rfl
    go_simp
    have M7 := M6.put 3 (.slice na (m.seen.length + 1) nc)
    have R7 := R6.far (b' := bt) (o := 3) (by omega) (.slice na (m.seen.length + 1) nc)
    have O7 := O6.setB (o := 3) NB (.slice na (m.seen.length + 1) nc)
    have C7 := C6.setNew4 (b := bt) (by omega) 3 (.slice na (m.seen.length + 1) nc)
    have D7 := D6.setNew (b := bt) (by omega) 3 (.slice na (m.seen.length + 1) nc)
    have X7 := Xd.farB (b' := bt) (o := 3) (by omega) (.slice na (m.seen.length + 1) nc)
    have s7 : wd.heap.size = (wd.setCell ⟨bt, 3, none⟩ (.slice na (m.seen.length + 1) nc)).heap.size := by simp
    have hs9 : w3.heap.size ≤ wd.heap.size := by omega
    rw [s7] at O7
    clear z9 g9 M6 R6 O6 C6 D6 X6 Xd NB
    have Xd := X7
    clear X7
    generalize wd.setCell ⟨bt, 3, none⟩ (.slice na (m.seen.length + 1) nc) = w5 at *
    refine hK.out _ _ (by first | exact ⟨Xd 0 _ rfl, Xd 1 _ rfl⟩ | exact pz | exact py | go_keep) (fun hHeld => ?_)
    clear hK K
    try simp only [Act.put, sA, sB, sC]
    refine wpAnyH_done (by kernel_rfl) ?_ _
    refine NoPanic.normal ?_
    have o0 := (M7.2 0 _ rfl).1
    have o1 := (M7.2 1 _ rfl).1
    have o2 := (M7.2 2 _ rfl).1
    have o3 := (M7.2 3 _ rfl).1
    have o4 := (M7.2 4 _ rfl).1
    have o5 := (M7.2 5 _ rfl).1
    clear M7 Xd py pz
    obtain ⟨⟨z0, f0⟩, ⟨z1, f1⟩, ⟨z2, f2⟩, ⟨z3, f3⟩, ⟨z4, f4⟩, ⟨z5, f5⟩⟩ : (_ ∧ _) ∧ (_ ∧ _) ∧ (_ ∧ _) ∧ (_ ∧ _) ∧ (_ ∧ _) ∧ (_ ∧ _) := ⟨R7.2 0 _ rfl, R7.2 1 _ rfl, R7.2 2 _ rfl, R7.2 3 _ rfl, R7.2 4 _ rfl, R7.2 5 _ rfl⟩
    have ZZ := dH ((((((R7.put 0 (.int .i64 m.bye)).put 1 (.int .i64 m.epoch)).put 2 (.slice q.sa m.sealed.length q.sc)).put 3 (.slice na (m.seen.length + 1) nc)).put 4 (.bool m.planned)).put 5 (.slice q.wa m.wrote.length q.wc))
    have OO := dH ((((((O7.far (b := w.heap.size + 1) (o := 0) (.inl (by omega)) (.int .i64 m.bye)).far (b := w.heap.size + 1) (o := 1) (.inl (by omega)) (.int .i64 m.epoch)).far (b := w.heap.size + 1) (o := 2) (.inl (by omega)) (.slice q.sa m.sealed.length q.sc)).far (b := w.heap.size + 1) (o := 3) (.inl (by omega)) (.slice na (m.seen.length + 1) nc)).far (b := w.heap.size + 1) (o := 4) (.inl (by omega)) (.bool m.planned)).far (b := w.heap.size + 1) (o := 5) (.inl (by omega)) (.slice q.wa m.wrote.length q.wc))
    have CC := dH ((((((C7.setNew4 (b := w.heap.size + 1) (by omega) 0 (.int .i64 m.bye)).setNew4 (b := w.heap.size + 1) (by omega) 1 (.int .i64 m.epoch)).setNew4 (b := w.heap.size + 1) (by omega) 2 (.slice q.sa m.sealed.length q.sc)).setNew4 (b := w.heap.size + 1) (by omega) 3 (.slice na (m.seen.length + 1) nc)).setNew4 (b := w.heap.size + 1) (by omega) 4 (.bool m.planned)).setNew4 (b := w.heap.size + 1) (by omega) 5 (.slice q.wa m.wrote.length q.wc))
    have DD := dH ((((((D7.setNew (b := w.heap.size + 1) (by omega) 0 (.int .i64 m.bye)).setNew (b := w.heap.size + 1) (by omega) 1 (.int .i64 m.epoch)).setNew (b := w.heap.size + 1) (by omega) 2 (.slice q.sa m.sealed.length q.sc)).setNew (b := w.heap.size + 1) (by omega) 3 (.slice na (m.seen.length + 1) nc)).setNew (b := w.heap.size + 1) (by omega) 4 (.bool m.planned)).setNew (b := w.heap.size + 1) (by omega) 5 (.slice q.wa m.wrote.length q.wc))
    have hV : w5.heap.size = ((((((w5.setCell ⟨w.heap.size + 1, 0, none⟩ (.int .i64 m.bye)).setCell ⟨w.heap.size + 1, 1, none⟩ (.int .i64 m.epoch)).setCell ⟨w.heap.size + 1, 2, none⟩ (.slice q.sa m.sealed.length q.sc)).setCell ⟨w.heap.size + 1, 3, none⟩ (.slice na (m.seen.length + 1) nc)).setCell ⟨w.heap.size + 1, 4, none⟩ (.bool m.planned)).setCell ⟨w.heap.size + 1, 5, none⟩ (.slice q.wa m.wrote.length q.wc)).heap.size := by simp
    clear O7 C7 D7 R7
    go_wp2_with fail
    generalize ((((((w5.setCell ⟨w.heap.size + 1, 0, none⟩ (.int .i64 m.bye)).setCell ⟨w.heap.size + 1, 1, none⟩ (.int .i64 m.epoch)).setCell ⟨w.heap.size + 1, 2, none⟩ (.slice q.sa m.sealed.length q.sc)).setCell ⟨w.heap.size + 1, 3, none⟩ (.slice na (m.seen.length + 1) nc)).setCell ⟨w.heap.size + 1, 4, none⟩ (.bool m.planned)).setCell ⟨w.heap.size + 1, 5, none⟩ (.slice q.wa m.wrote.length q.wc)) = V at *
    have q0 := ((dU ZZ).2 0 _ rfl).1
    have q1 := ((dU ZZ).2 1 _ rfl).1
    have q2 := ((dU ZZ).2 2 _ rfl).1
    have q3 := ((dU ZZ).2 3 _ rfl).1
    have q4 := ((dU ZZ).2 4 _ rfl).1
    have q5 := ((dU ZZ).2 5 _ rfl).1
    refine bodyPost_ret (v := .agg #[.int .i64 m.bye, .int .i64 m.epoch, .slice q.sa m.sealed.length q.sc, .slice na (m.seen.length + 1) nc, .bool m.planned, .slice q.wa m.wrote.length q.wc]) (by simp [results, Tryz.results67, go_sem, q0, q1, q2, q3, q4, q5]) rfl ⟨?_, dU CC, dU DD⟩
    rw [hV] at OO
    have e8 : (m.seen ++ [(⟨yp, yw, yh, yd⟩ : Ent)]).length = m.seen.length + 1 := by simp
    rw [← e8]
    refine ⟨⟨m.bye, m.epoch, m.sealed, m.seen ++ [⟨yp, yw, yh, yd⟩], m.planned, m.wrote⟩, ⟨q.sa, q.sc, na, nc, q.wa, q.wc⟩, rfl, MIn.mend (m := ⟨m.bye, m.epoch, m.sealed, m.seen ++ [⟨yp, yw, yh, yd⟩], m.planned, m.wrote⟩) (rs := rs) ?_ (dU E9), ⟨⟨(dU F4).1.1, (dU F4).1.2.1, (dU F4).1.2.2.1, fun e he => ?_, (dU F4).1.2.2.2.2⟩, (dU F4).2.1, ⟨?_, fun e he => ?_⟩, (dU F4).n.2.2.2⟩⟩
    ·simp only
     rw [e8]
     exact (dU OO).wide (by omega) (Nat.le_refl _)
    ·rcases List.mem_append.1 he with r | r
     ·exact (dU F4).1.2.2.2.1 e r
     ·obtain rfl : e = ⟨yp, yw, yh, yd⟩ := by simpa using r
      exact hfy
    ·simp only
     rw [e8]
     have := (dU F4).2.2.1.1
     omega
    ·rcases List.mem_append.1 he with r | r
     ·exact (dU F4).2.2.1.2 e r
     ·obtain rfl : e = ⟨yp, yw, yh, yd⟩ := by simpa using r
      simp only
      omega
   ·go_simp
    have RW := rw_one wd ⟨yp, yw, yh, yd⟩ 36 1 (by omega)
    have bs := ba wd (.cells #[.int .i64 yp, .int .i64 yw, .bool yh, .string yd] 36)
    have es2 : (wd.alloc (.cells #[.int .i64 yp, .int .i64 yw, .bool yh, .string yd] 36)).heap.size = wd.heap.size + 1 := by simp
    replace Dd := Dd.trans (Drawn.of_below bs)
    replace Xd := Xd.below bs
    replace Nd := Nd.below bs
    replace Rd := Rd.below bs
    replace Md := Md.below bs
    replace Od := Od.below (by omega) bs
    have hcd' := hcd.below bs
    replace hsz : w3.heap.size ≤ (wd.alloc (.cells #[.int .i64 yp, .int .i64 yw, .bool yh, .string yd] 36)).heap.size := by omega
    clear bs es2 hcd
    try clear ol
    generalize wd.heap.size = b4 at *
    generalize wd.alloc (.cells #[.int .i64 yp, .int .i64 yw, .bool yh, .string yd] 36) = wd at *
    have hcd := hcd'
    clear hcd'
    refine hK.out _ _ (by first | exact ⟨Xd 0 _ rfl, Xd 1 _ rfl⟩ | exact pz | exact py | go_keep) (fun hHeld => ?_)
    clear hK K
    try simp only [Act.put, sA, sB, sC]
    refine wpAnyH_ready (rs := [1]) (by kernel_rfl) (by simp) ?_
    refine rC rfl (fun K hK => ?_) AllReadyH.nil
    have ol := (Md.2 3 _ rfl).1
    go_simp
    refine hK.out _ _ (by first | exact ⟨Xd 0 _ rfl, Xd 1 _ rfl⟩ | exact pz | exact py | go_keep) (fun hHeld => ?_)
    clear hK K
    try simp only [Act.put, sA, sB, sC]
    refine wpAnyH_ready (rs := [5]) (by kernel_rfl) (by simp) ?_
    refine rC rfl (fun K hK => ?_) AllReadyH.nil
    have hwl := (dU F4).2.2.1.1
    obtain ⟨v5, w5, hrun, A5, g5, t5⟩ := run_apR elemE (w := wd) (ms := m.seen) (ns := [⟨yp, yw, yh, yd⟩]) (base := w0.heap.size) 27 (v := .slice q.ea m.seen.length q.ec) Od.e.1 (.slice (some ⟨b4, 0, none⟩) 1 1) RW (by simp; omega) (by simp; omega) (by omega)
    obtain ⟨na, nc, hv5⟩ := ApR.slice elemE A5
    rw [show (m.seen ++ [(⟨yp, yw, yh, yd⟩ : Ent)]).length = m.seen.length + 1 by simp] at hv5
    subst hv5
    have s5 := g5.size
    have hTl : ∀ j, touch (.slice q.ea m.seen.length q.ec) = some j → w0.heap.size ≤ j ∧ j < bt := fun j hj => by
     obtain ⟨r1, r2⟩ := Od.e.touch hj
     subst r2
     exact ⟨Od.e.ge.resolve_left r1, Od.eh.resolve_left r1⟩
    have O6 := Od.seenApp (by omega) g5 A5 t5
    have D6 := Dd.grown g5 (fun j hj => by have := (hTl j hj).1; omega)
    have R6 := Rd.grown g5 (fun e => by have := (hTl _ e).1; omega)
    have M6 := Md.grown g5 (fun e => by have := (hTl _ e).2; omega)
    have X6 := Xd.grown g5 (fun e => by have := (hTl _ e).1; omega)
    have C6 := hcd.grown g5 (fun j hj => by have := (hTl j hj).1; omega)
    have tb : touch (.slice na (m.seen.length + 1) nc) ≠ some bt := by
     rcases t5 with r | r
     ·rw [r]; exact fun e => by have := (hTl _ e).2; omega
     ·exact fun e => by have := r _ e; omega
    refine op_appR _ _ 27 27 rfl _ _ rfl rfl hrun ?_
    have NBw := (Od.noM (b := bt) (.inl (Nat.le_refl _)))
    have NB : NoM bt (.slice q.sa m.sealed.length q.sc) (.slice na (m.seen.length + 1) nc) (.slice q.wa m.wrote.length q.wc) rs m.sealed (m.seen ++ [⟨yp, yw, yh, yd⟩]) := ⟨NBw.1, .inr (fun e => tb ((touchE_at A5 (by simp)).trans (by rw [e]))), NBw.2.2⟩
    clear hrun A5 g5 t5 RW Od Dd Rd Md Xd Nd hcd NBw hTl
    have Xd := X6
    generalize w5 = wd at *
    refine hK.out _ _ (by first | exact ⟨Xd 0 _ rfl, Xd 1 _ rfl⟩ | exact pz | exact py | go_keep) (fun hHeld => ?_)
    clear hK K
    try simp only [Act.put, sA, sB, sC]
    refine tY 6 (v := ?_) rfl (by kernel_rfl) (.inl ⟨by rfl, ?_⟩) ‹_› ?_
    rotate_left 1
    ·intro w hSw
     (try dsimp only at hSw)
     first | (go_simp; done) | (go_simp; with_reducible rfl)
    try simp only [Act.put, sA, sB, sC]
    refine wpAnyH_ready (rs := [7]) (by kernel_rfl) (by simp) ?_
    refine rC rfl (fun K hK => ?_) AllReadyH.nil
    obtain ⟨z9, g9⟩ := M6.2 3 _ rfl
    go_simp
    have M7 := M6.put 3 (.slice na (m.seen.length + 1) nc)
    have R7 := R6.far (b' := bt) (o := 3) (by omega) (.slice na (m.seen.length + 1) nc)
    have O7 := O6.setB (o := 3) NB (.slice na (m.seen.length + 1) nc)
    have C7 := C6.setNew4 (b := bt) (by omega) 3 (.slice na (m.seen.length + 1) nc)
    have D7 := D6.setNew (b := bt) (by omega) 3 (.slice na (m.seen.length + 1) nc)
    have X7 := Xd.farB (b' := bt) (o := 3) (by omega) (.slice na (m.seen.length + 1) nc)
    have s7 : wd.heap.size = (wd.setCell ⟨bt, 3, none⟩ (.slice na (m.seen.length + 1) nc)).heap.size := by simp
    have hs9 : w3.heap.size ≤ wd.heap.size := by omega
    rw [s7] at O7
    clear z9 g9 M6 R6 O6 C6 D6 X6 Xd NB
    have Xd := X7
    clear X7
    generalize wd.setCell ⟨bt, 3, none⟩ (.slice na (m.seen.length + 1) nc) = w5 at *
    refine hK.out _ _ (by first | exact ⟨Xd 0 _ rfl, Xd 1 _ rfl⟩ | exact pz | exact py | go_keep) (fun hHeld => ?_)
    clear hK K
    try simp only [Act.put, sA, sB, sC]
    refine wpAnyH_done (by kernel_rfl) ?_ _
    refine NoPanic.normal ?_
    have o0 := (M7.2 0 _ rfl).1
    have o1 := (M7.2 1 _ rfl).1
    have o2 := (M7.2 2 _ rfl).1
    have o3 := (M7.2 3 _ rfl).1
    have o4 := (M7.2 4 _ rfl).1
    have o5 := (M7.2 5 _ rfl).1
    clear M7 Xd py pz
    obtain ⟨⟨z0, f0⟩, ⟨z1, f1⟩, ⟨z2, f2⟩, ⟨z3, f3⟩, ⟨z4, f4⟩, ⟨z5, f5⟩⟩ : (_ ∧ _) ∧ (_ ∧ _) ∧ (_ ∧ _) ∧ (_ ∧ _) ∧ (_ ∧ _) ∧ (_ ∧ _) := ⟨R7.2 0 _ rfl, R7.2 1 _ rfl, R7.2 2 _ rfl, R7.2 3 _ rfl, R7.2 4 _ rfl, R7.2 5 _ rfl⟩
    have ZZ := dH ((((((R7.put 0 (.int .i64 m.bye)).put 1 (.int .i64 m.epoch)).put 2 (.slice q.sa m.sealed.length q.sc)).put 3 (.slice na (m.seen.length + 1) nc)).put 4 (.bool m.planned)).put 5 (.slice q.wa m.wrote.length q.wc))
    have OO := dH ((((((O7.far (b := w.heap.size + 1) (o := 0) (.inl (by omega)) (.int .i64 m.bye)).far (b := w.heap.size + 1) (o := 1) (.inl (by omega)) (.int .i64 m.epoch)).far (b := w.heap.size + 1) (o := 2) (.inl (by omega)) (.slice q.sa m.sealed.length q.sc)).far (b := w.heap.size + 1) (o := 3) (.inl (by omega)) (.slice na (m.seen.length + 1) nc)).far (b := w.heap.size + 1) (o := 4) (.inl (by omega)) (.bool m.planned)).far (b := w.heap.size + 1) (o := 5) (.inl (by omega)) (.slice q.wa m.wrote.length q.wc))
    have CC := dH ((((((C7.setNew4 (b := w.heap.size + 1) (by omega) 0 (.int .i64 m.bye)).setNew4 (b := w.heap.size + 1) (by omega) 1 (.int .i64 m.epoch)).setNew4 (b := w.heap.size + 1) (by omega) 2 (.slice q.sa m.sealed.length q.sc)).setNew4 (b := w.heap.size + 1) (by omega) 3 (.slice na (m.seen.length + 1) nc)).setNew4 (b := w.heap.size + 1) (by omega) 4 (.bool m.planned)).setNew4 (b := w.heap.size + 1) (by omega) 5 (.slice q.wa m.wrote.length q.wc))
    have DD := dH ((((((D7.setNew (b := w.heap.size + 1) (by omega) 0 (.int .i64 m.bye)).setNew (b := w.heap.size + 1) (by omega) 1 (.int .i64 m.epoch)).setNew (b := w.heap.size + 1) (by omega) 2 (.slice q.sa m.sealed.length q.sc)).setNew (b := w.heap.size + 1) (by omega) 3 (.slice na (m.seen.length + 1) nc)).setNew (b := w.heap.size + 1) (by omega) 4 (.bool m.planned)).setNew (b := w.heap.size + 1) (by omega) 5 (.slice q.wa m.wrote.length q.wc))
    have hV : w5.heap.size = ((((((w5.setCell ⟨w.heap.size + 1, 0, none⟩ (.int .i64 m.bye)).setCell ⟨w.heap.size + 1, 1, none⟩ (.int .i64 m.epoch)).setCell ⟨w.heap.size + 1, 2, none⟩ (.slice q.sa m.sealed.length q.sc)).setCell ⟨w.heap.size + 1, 3, none⟩ (.slice na (m.seen.length + 1) nc)).setCell ⟨w.heap.size + 1, 4, none⟩ (.bool m.planned)).setCell ⟨w.heap.size + 1, 5, none⟩ (.slice q.wa m.wrote.length q.wc)).heap.size := by simp
    clear O7 C7 D7 R7
    go_wp2_with fail
    generalize ((((((w5.setCell ⟨w.heap.size + 1, 0, none⟩ (.int .i64 m.bye)).setCell ⟨w.heap.size + 1, 1, none⟩ (.int .i64 m.epoch)).setCell ⟨w.heap.size + 1, 2, none⟩ (.slice q.sa m.sealed.length q.sc)).setCell ⟨w.heap.size + 1, 3, none⟩ (.slice na (m.seen.length + 1) nc)).setCell ⟨w.heap.size + 1, 4, none⟩ (.bool m.planned)).setCell ⟨w.heap.size + 1, 5, none⟩ (.slice q.wa m.wrote.length q.wc)) = V at *
    have q0 := ((dU ZZ).2 0 _ rfl).1
    have q1 := ((dU ZZ).2 1 _ rfl).1
    have q2 := ((dU ZZ).2 2 _ rfl).1
    have q3 := ((dU ZZ).2 3 _ rfl).1
    have q4 := ((dU ZZ).2 4 _ rfl).1
    have q5 := ((dU ZZ).2 5 _ rfl).1
    refine bodyPost_ret (v := .agg #[.int .i64 m.bye, .int .i64 m.epoch, .slice q.sa m.sealed.length q.sc, .slice na (m.seen.length + 1) nc, .bool m.planned, .slice q.wa m.wrote.length q.wc]) (by simp [results, Tryz.results67, go_sem, q0, q1, q2, q3, q4, q5]) rfl ⟨?_, dU CC, dU DD⟩
    rw [hV] at OO
    have e8 : (m.seen ++ [(⟨yp, yw, yh, yd⟩ : Ent)]).length = m.seen.length + 1 := by simp
    rw [← e8]
    refine ⟨⟨m.bye, m.epoch, m.sealed, m.seen ++ [⟨yp, yw, yh, yd⟩], m.planned, m.wrote⟩, ⟨q.sa, q.sc, na, nc, q.wa, q.wc⟩, rfl, MIn.mend (m := ⟨m.bye, m.epoch, m.sealed, m.seen ++ [⟨yp, yw, yh, yd⟩], m.planned, m.wrote⟩) (rs := rs) ?_ (dU E9), ⟨⟨(dU F4).1.1, (dU F4).1.2.1, (dU F4).1.2.2.1, fun e he => ?_, (dU F4).1.2.2.2.2⟩, (dU F4).2.1, ⟨?_, fun e he => ?_⟩, (dU F4).n.2.2.2⟩⟩
    ·simp only
     rw [e8]
     exact (dU OO).wide (by omega) (Nat.le_refl _)
    ·rcases List.mem_append.1 he with r | r
     ·exact (dU F4).1.2.2.2.1 e r
     ·obtain rfl : e = ⟨yp, yw, yh, yd⟩ := by simpa using r
      exact hfy
    ·simp only
     rw [e8]
     have := (dU F4).2.2.1.1
     omega
    ·rcases List.mem_append.1 he with r | r
     ·exact (dU F4).2.2.1.2 e r
     ·obtain rfl : e = ⟨yp, yw, yh, yd⟩ := by simpa using r
      simp only
      omega
 by_cases h4 : t = 4
 ·have n0 : ((t : Int) == 0) = false := by first | (simp; omega) | (rw [beq_eq_false_iff_ne]; omega) | (rw [beq_iff_eq]; omega)
  have n1 : ((t : Int) == 1) = false := by first | (simp; omega) | (rw [beq_eq_false_iff_ne]; omega) | (rw [beq_iff_eq]; omega)
  have n2 : ((t : Int) == 2) = false := by first | (simp; omega) | (rw [beq_eq_false_iff_ne]; omega) | (rw [beq_iff_eq]; omega)
  have n3 : ((t : Int) == 3) = false := by first | (simp; omega) | (rw [beq_eq_false_iff_ne]; omega) | (rw [beq_iff_eq]; omega)
  have n4 : ((t : Int) == 4) = true := by first | (simp; omega) | (rw [beq_eq_false_iff_ne]; omega) | (rw [beq_iff_eq]; omega)
  have x0 := X3 0 _ rfl
  have x1 := X3 1 _ rfl
  have CNo := dH (l4DrawNodes_any bk (.slice ca ds.length cc) ds cop w3 hc3 N3 hl)
  have F4 := dH F1
  have hbt5 : bt < w3.heap.size := by omega
  clear hc3
  go_wp2_with fail
  refine (dU CNo).mono ?_
  rintro e w4 ⟨⟨u4, zs, rfl, A4, hzl, hz⟩, hc4, hd4⟩
  have N4 := ownN_of_row A4
  obtain ⟨-, ya, yc, rfl, -, -⟩ := N4.bs
  have s4 := hd4.size
  have D5 := D3.trans hd4
  have R5 := R3.drawn hd4 (by omega)
  have M5 := M3.drawn hd4 (by omega)
  have O5 := (O3.same fun k h3 h4 => hd4.block k (by omega) (by omega)).sealedNew (B := w3.heap.size) (by omega) (by omega) s4 N4
  have okz : Hid (zs.length ≤ 20 ∧ allInt zs) := ⟨hzl, fun z h => by have := hz z h; exact ⟨by omega, by omega⟩⟩
  have NB : NoM bt (.slice ya zs.length yc) (.slice q.ea m.seen.length q.ec) (.slice q.wa m.wrote.length q.wc) rs zs m.seen := ⟨by
   rcases N4.ge with r | r
   ·exact .inl r
   ·exact .inr (by omega), (O3.noM (b := bt) (.inl (Nat.le_refl _))).2⟩
  obtain ⟨z9, g9⟩ := M5.2 2 _ rfl
  have M6 := M5.put 2 (.slice ya zs.length yc)
  have R6 := R5.far (b' := bt) (o := 2) (by omega) (.slice ya zs.length yc)
  have O6 := O5.setB (o := 2) NB (.slice ya zs.length yc)
  have C6 := hc4.setNew4 (b := bt) (by omega) 2 (.slice ya zs.length yc)
  have D6 := D5.setNew (b := bt) (by omega) 2 (.slice ya zs.length yc)
  have s6 : w4.heap.size = (w4.setCell ⟨bt, 2, none⟩ (.slice ya zs.length yc)).heap.size := by simp
  rw [s6] at O6
  have o0 := (M6.2 0 _ rfl).1
  have o1 := (M6.2 1 _ rfl).1
  have o2 := (M6.2 2 _ rfl).1
  have o3 := (M6.2 3 _ rfl).1
  have o4 := (M6.2 4 _ rfl).1
  have o5 := (M6.2 5 _ rfl).1
  clear CNo x0 x1 A4 N4 hzl hz D3 R3 M3 O3 D5 R5 M5 O5 NB hc4 hd4 M6
  go_upto_region 13 with fail
  generalize w4.setCell ⟨bt, 2, none⟩ (.slice ya zs.length yc) = w5 at *
  clear z9 g9
  obtain ⟨⟨z0, f0⟩, ⟨z1, f1⟩, ⟨z2, f2⟩, ⟨z3, f3⟩, ⟨z4, f4⟩, ⟨z5, f5⟩⟩ : (_ ∧ _) ∧ (_ ∧ _) ∧ (_ ∧ _) ∧ (_ ∧ _) ∧ (_ ∧ _) ∧ (_ ∧ _) := ⟨R6.2 0 _ rfl, R6.2 1 _ rfl, R6.2 2 _ rfl, R6.2 3 _ rfl, R6.2 4 _ rfl, R6.2 5 _ rfl⟩
  have ZZ := dH ((((((R6.put 0 (.int .i64 m.bye)).put 1 (.int .i64 m.epoch)).put 2 (.slice ya zs.length yc)).put 3 (.slice q.ea m.seen.length q.ec)).put 4 (.bool m.planned)).put 5 (.slice q.wa m.wrote.length q.wc))
  have OO := dH ((((((O6.far (b := w.heap.size + 1) (o := 0) (.inl (by omega)) (.int .i64 m.bye)).far (b := w.heap.size + 1) (o := 1) (.inl (by omega)) (.int .i64 m.epoch)).far (b := w.heap.size + 1) (o := 2) (.inl (by omega)) (.slice ya zs.length yc)).far (b := w.heap.size + 1) (o := 3) (.inl (by omega)) (.slice q.ea m.seen.length q.ec)).far (b := w.heap.size + 1) (o := 4) (.inl (by omega)) (.bool m.planned)).far (b := w.heap.size + 1) (o := 5) (.inl (by omega)) (.slice q.wa m.wrote.length q.wc))
  have CC := dH ((((((C6.setNew4 (b := w.heap.size + 1) (by omega) 0 (.int .i64 m.bye)).setNew4 (b := w.heap.size + 1) (by omega) 1 (.int .i64 m.epoch)).setNew4 (b := w.heap.size + 1) (by omega) 2 (.slice ya zs.length yc)).setNew4 (b := w.heap.size + 1) (by omega) 3 (.slice q.ea m.seen.length q.ec)).setNew4 (b := w.heap.size + 1) (by omega) 4 (.bool m.planned)).setNew4 (b := w.heap.size + 1) (by omega) 5 (.slice q.wa m.wrote.length q.wc))
  have DD := dH ((((((D6.setNew (b := w.heap.size + 1) (by omega) 0 (.int .i64 m.bye)).setNew (b := w.heap.size + 1) (by omega) 1 (.int .i64 m.epoch)).setNew (b := w.heap.size + 1) (by omega) 2 (.slice ya zs.length yc)).setNew (b := w.heap.size + 1) (by omega) 3 (.slice q.ea m.seen.length q.ec)).setNew (b := w.heap.size + 1) (by omega) 4 (.bool m.planned)).setNew (b := w.heap.size + 1) (by omega) 5 (.slice q.wa m.wrote.length q.wc))
  have hV : w5.heap.size = ((((((w5.setCell ⟨w.heap.size + 1, 0, none⟩ (.int .i64 m.bye)).setCell ⟨w.heap.size + 1, 1, none⟩ (.int .i64 m.epoch)).setCell ⟨w.heap.size + 1, 2, none⟩ (.slice ya zs.length yc)).setCell ⟨w.heap.size + 1, 3, none⟩ (.slice q.ea m.seen.length q.ec)).setCell ⟨w.heap.size + 1, 4, none⟩ (.bool m.planned)).setCell ⟨w.heap.size + 1, 5, none⟩ (.slice q.wa m.wrote.length q.wc)).heap.size := by simp
  clear O6 C6 D6 R6
  go_wp2_with fail
  generalize ((((((w5.setCell ⟨w.heap.size + 1, 0, none⟩ (.int .i64 m.bye)).setCell ⟨w.heap.size + 1, 1, none⟩ (.int .i64 m.epoch)).setCell ⟨w.heap.size + 1, 2, none⟩ (.slice ya zs.length yc)).setCell ⟨w.heap.size + 1, 3, none⟩ (.slice q.ea m.seen.length q.ec)).setCell ⟨w.heap.size + 1, 4, none⟩ (.bool m.planned)).setCell ⟨w.heap.size + 1, 5, none⟩ (.slice q.wa m.wrote.length q.wc)) = V at *
  have q0 := ((dU ZZ).2 0 _ rfl).1
  have q1 := ((dU ZZ).2 1 _ rfl).1
  have q2 := ((dU ZZ).2 2 _ rfl).1
  have q3 := ((dU ZZ).2 3 _ rfl).1
  have q4 := ((dU ZZ).2 4 _ rfl).1
  have q5 := ((dU ZZ).2 5 _ rfl).1
  refine bodyPost_ret (v := .agg #[.int .i64 m.bye, .int .i64 m.epoch, .slice ya zs.length yc, .slice q.ea m.seen.length q.ec, .bool m.planned, .slice q.wa m.wrote.length q.wc]) (by simp [results, Tryz.results67, go_sem, q0, q1, q2, q3, q4, q5]) rfl ⟨?_, dU CC, dU DD⟩
  rw [hV] at OO
  exact ⟨⟨m.bye, m.epoch, zs, m.seen, m.planned, m.wrote⟩, ⟨ya, yc, q.ea, q.ec, q.wa, q.wc⟩, rfl, MIn.mend (m := ⟨m.bye, m.epoch, zs, m.seen, m.planned, m.wrote⟩) ((dU OO).wide (by omega) (Nat.le_refl _)) (dU E9), ⟨⟨(dU F4).1.1, (dU F4).1.2.1, (dU okz).2, (dU F4).1.2.2.2⟩, by have := (dU okz).1; simp only; omega, (dU F4).n.2.2⟩⟩
 have n0 : ((t : Int) == 0) = false := by first | (simp; omega) | (rw [beq_eq_false_iff_ne]; omega) | (rw [beq_iff_eq]; omega)
 have n1 : ((t : Int) == 1) = false := by first | (simp; omega) | (rw [beq_eq_false_iff_ne]; omega) | (rw [beq_iff_eq]; omega)
 have n2 : ((t : Int) == 2) = false := by first | (simp; omega) | (rw [beq_eq_false_iff_ne]; omega) | (rw [beq_iff_eq]; omega)
 have n3 : ((t : Int) == 3) = false := by first | (simp; omega) | (rw [beq_eq_false_iff_ne]; omega) | (rw [beq_iff_eq]; omega)
 have n4 : ((t : Int) == 4) = false := by first | (simp; omega) | (rw [beq_eq_false_iff_ne]; omega) | (rw [beq_iff_eq]; omega)
 have O6 := O3.wide (hi' := w3.heap.size) (Nat.le_refl _) (by omega)
 have F4 := dH F1
 have o0 := (M3.2 0 _ rfl).1
 have o1 := (M3.2 1 _ rfl).1
 have o2 := (M3.2 2 _ rfl).1
 have o3 := (M3.2 3 _ rfl).1
 have o4 := (M3.2 4 _ rfl).1
 have o5 := (M3.2 5 _ rfl).1
 clear M3 O3
 obtain ⟨⟨z0, f0⟩, ⟨z1, f1⟩, ⟨z2, f2⟩, ⟨z3, f3⟩, ⟨z4, f4⟩, ⟨z5, f5⟩⟩ : (_ ∧ _) ∧ (_ ∧ _) ∧ (_ ∧ _) ∧ (_ ∧ _) ∧ (_ ∧ _) ∧ (_ ∧ _) := ⟨R3.2 0 _ rfl, R3.2 1 _ rfl, R3.2 2 _ rfl, R3.2 3 _ rfl, R3.2 4 _ rfl, R3.2 5 _ rfl⟩
 have ZZ := dH ((((((R3.put 0 (.int .i64 m.bye)).put 1 (.int .i64 m.epoch)).put 2 (.slice q.sa m.sealed.length q.sc)).put 3 (.slice q.ea m.seen.length q.ec)).put 4 (.bool m.planned)).put 5 (.slice q.wa m.wrote.length q.wc))
 have OO := dH ((((((O6.far (b := w.heap.size + 1) (o := 0) (.inl (by omega)) (.int .i64 m.bye)).far (b := w.heap.size + 1) (o := 1) (.inl (by omega)) (.int .i64 m.epoch)).far (b := w.heap.size + 1) (o := 2) (.inl (by omega)) (.slice q.sa m.sealed.length q.sc)).far (b := w.heap.size + 1) (o := 3) (.inl (by omega)) (.slice q.ea m.seen.length q.ec)).far (b := w.heap.size + 1) (o := 4) (.inl (by omega)) (.bool m.planned)).far (b := w.heap.size + 1) (o := 5) (.inl (by omega)) (.slice q.wa m.wrote.length q.wc))
 have CC := dH ((((((hc3.setNew4 (b := w.heap.size + 1) (by omega) 0 (.int .i64 m.bye)).setNew4 (b := w.heap.size + 1) (by omega) 1 (.int .i64 m.epoch)).setNew4 (b := w.heap.size + 1) (by omega) 2 (.slice q.sa m.sealed.length q.sc)).setNew4 (b := w.heap.size + 1) (by omega) 3 (.slice q.ea m.seen.length q.ec)).setNew4 (b := w.heap.size + 1) (by omega) 4 (.bool m.planned)).setNew4 (b := w.heap.size + 1) (by omega) 5 (.slice q.wa m.wrote.length q.wc))
 have DD := dH ((((((D3.setNew (b := w.heap.size + 1) (by omega) 0 (.int .i64 m.bye)).setNew (b := w.heap.size + 1) (by omega) 1 (.int .i64 m.epoch)).setNew (b := w.heap.size + 1) (by omega) 2 (.slice q.sa m.sealed.length q.sc)).setNew (b := w.heap.size + 1) (by omega) 3 (.slice q.ea m.seen.length q.ec)).setNew (b := w.heap.size + 1) (by omega) 4 (.bool m.planned)).setNew (b := w.heap.size + 1) (by omega) 5 (.slice q.wa m.wrote.length q.wc))
 have hV : w3.heap.size = ((((((w3.setCell ⟨w.heap.size + 1, 0, none⟩ (.int .i64 m.bye)).setCell ⟨w.heap.size + 1, 1, none⟩ (.int .i64 m.epoch)).setCell ⟨w.heap.size + 1, 2, none⟩ (.slice q.sa m.sealed.length q.sc)).setCell ⟨w.heap.size + 1, 3, none⟩ (.slice q.ea m.seen.length q.ec)).setCell ⟨w.heap.size + 1, 4, none⟩ (.bool m.planned)).setCell ⟨w.heap.size + 1, 5, none⟩ (.slice q.wa m.wrote.length q.wc)).heap.size := by simp
 clear O6 hc3 D3 R3
 go_wp2_with fail
 generalize ((((((w3.setCell ⟨w.heap.size + 1, 0, none⟩ (.int .i64 m.bye)).setCell ⟨w.heap.size + 1, 1, none⟩ (.int .i64 m.epoch)).setCell ⟨w.heap.size + 1, 2, none⟩ (.slice q.sa m.sealed.length q.sc)).setCell ⟨w.heap.size + 1, 3, none⟩ (.slice q.ea m.seen.length q.ec)).setCell ⟨w.heap.size + 1, 4, none⟩ (.bool m.planned)).setCell ⟨w.heap.size + 1, 5, none⟩ (.slice q.wa m.wrote.length q.wc)) = V at *
 have q0 := ((dU ZZ).2 0 _ rfl).1
 have q1 := ((dU ZZ).2 1 _ rfl).1
 have q2 := ((dU ZZ).2 2 _ rfl).1
 have q3 := ((dU ZZ).2 3 _ rfl).1
 have q4 := ((dU ZZ).2 4 _ rfl).1
 have q5 := ((dU ZZ).2 5 _ rfl).1
 refine bodyPost_ret (v := .agg #[.int .i64 m.bye, .int .i64 m.epoch, .slice q.sa m.sealed.length q.sc, .slice q.ea m.seen.length q.ec, .bool m.planned, .slice q.wa m.wrote.length q.wc]) (by simp [results, Tryz.results67, go_sem, q0, q1, q2, q3, q4, q5]) rfl ⟨?_, dU CC, dU DD⟩
 rw [hV] at OO
 exact dU MD V m.bye m.planned (dU OO) (dU F4) (dU F4).1.1
end Go.Proofs.YtjkjmapibcfcdaaGreat
