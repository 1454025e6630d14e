/- Several texts in one: JgO, JgT, JgU. -/
import Derived.Test.YtekgkjomdpjkbaaGreatGz18x
import Derived.Deep.RegionHeld3
import Derived.Deep.DeepCutAuto
import Derived.Test.YtekgkjomdpjkbaaGreatGaT
import Derived.Deep.QuietTactic
import Derived.Test.YtekgkjomdpjkbaaGreatGk12
namespace Go.Proofs.YtekgkjomdpjkbaaGreat
open Go.ChangeShapes Go.WideShapes Go.ChangeAt Go.RowKit
set_option linter.unusedSimpArgs false
set_option linter.unusedVariables false
set_option maxRecDepth 100000
def ascV (l : List Ev) : Prop := ∀ i (h : i + 1 < l.length), l[i].pl < l[i + 1].pl
def ordR (r : Rr) : Prop := ascV (evK [1, 2, 3] r.out)
set_option maxHeartbeats 4000000 in
theorem rInOrder_any (v : Value) (m : Rr) (w : World) (hv : RdReader v m w) (hl : m.out.length ≤ 1048576) :
  Calls Tryz.prog 117 #[v] w fun e w' => RetB (ordR m) e ∧ Below w.heap.size w w' := by
 have ba : ∀ (w : World) o, Below w.heap.size w (w.alloc o) := fun w o => (Below.refl _ _).alloc (Nat.le_refl _) o
 have C := dH fun W (hb : Below w.heap.size w W) kv (hk : Ns W kv [1, 2, 3]) => events_any v kv m [1, 2, 3] W (hv.below hb) hk hl
 have PQ : Hid (ordR m ↔ ascV (evK [1, 2, 3] m.out)) := Iff.rfl
 generalize ordR m = Q at *
 obtain ⟨sv, rfl, hs⟩ := hv
 obtain ⟨sa, sc, rfl, -⟩ := formEventS hs
 have B0 := bT (ba w (.cells #[.int .i64 m.epoch, .int .i64 m.off, .slice sa m.out.length sc] 62)) (ba _ (.cells #[.int .i64 1, .int .i64 2, .int .i64 3] 3))
 have X0 := Bx.new (w.alloc (.cells #[.int .i64 m.epoch, .int .i64 m.off, .slice sa m.out.length sc] 62)) [.int .i64 1, .int .i64 2, .int .i64 3] 3
 rw [show (w.alloc (.cells #[.int .i64 m.epoch, .int .i64 m.off, .slice sa m.out.length sc] 62)).heap.size = w.heap.size + 1 from by simp] at X0
 have N0 : Hid (Ns ((w.alloc (.cells #[.int .i64 m.epoch, .int .i64 m.off, .slice sa m.out.length sc] 62)).alloc (.cells #[.int .i64 1, .int .i64 2, .int .i64 3] 3)) (.slice (some ⟨w.heap.size + 1, 0, none⟩) 3 3) [1, 2, 3]) := ⟨by simp, _, 3, rfl, ⟨by simp, by omega⟩, .inr ⟨w.heap.size + 1, 0, rfl, fun i hi => by
  match i, hi with
  | 0, _ => exact X0 0 _ rfl
  | 1, _ => exact X0 1 _ rfl
  | 2, _ => exact X0 2 _ rfl⟩⟩
 clear hs X0
 go_enter Tryz.func117, Tryz.ntmps117
 go_wp2_with fail
 refine (dU C _ B0 _ (dU N0)).mono ?_
 rintro e w1 ⟨⟨u, rfl, hu⟩, b1⟩
 have B1 := bT B0 b1
 have HU := dH fun W (hb : Below w1.heap.size w1 W) => hu.below hb
 obtain ⟨ua, uc, rfl, hul⟩ := formEventS hu
 clear hu b1 B0 C N0
 generalize evK [1, 2, 3] m.out = es at *
 go_wp2
 go_loopw [3, 10] (fun x y wr => ∃ (k : Nat) (last : Int), x = .int .i64 last ∧ y = .int .i64 (k : Int) ∧ k ≤ es.length ∧ Hid (∀ i (h : i + 1 < es.length), i + 1 < k → es[i].pl < es[i + 1].pl) ∧ Hid (∀ (h : k - 1 < es.length), 0 < k → last = es[k - 1].pl) ∧ Below w1.heap.size w1 wr) (fun _ y _ => es.length - (intOf y).toNat)
 case atStart => exact ⟨0, 0, rfl, rfl, Nat.zero_le _, fun i h h' => by omega, fun h h' => by omega, Below.refl _ _⟩
 case round =>
  obtain ⟨k, last, rfl, rfl, hk, hinv, hlast, hb⟩ := hrel
  by_cases hlt : (k : Int) < (es.length : Int)
  ·have hkl : k < es.length := by omega
   obtain ⟨b, off, rfl, he⟩ := (dU HU wr hb).atEv hkl
   obtain ⟨c0, c1, c2⟩ := he k hkl
   have bA : ∀ o, Below w1.heap.size w1 (wr.alloc o) := fun o => bT hb ((Below.refl _ _).alloc (Nat.le_refl _) o)
   by_cases h0 : (0 : Int) < (k : Int)
   ·have hl0 := dU hlast (by omega) (by omega)
    by_cases hle : es[k].pl ≤ last
    ·have R := dH (show RetB Q (.returned (.bool false)) from RetB.no fun q => by
      have := (dU PQ).1 q (k - 1) (by omega)
      simp only [show k - 1 + 1 = k by omega] at this
      omega)
     have B2 := fun o => bT B1 (bA o)
     clear hinv hlast hl0 he PQ HU
     generalize es[k] = y at *
     obtain ⟨y0, y1, y2⟩ := y
     simp only at *
     go_wp2
     go_ret
     exact ⟨dU R, B2 _⟩
    ·have H2 : Hid (∀ i (h : i + 1 < es.length), i + 1 < k + 1 → es[i].pl < es[i + 1].pl) := fun i h hi => by
      by_cases e : i + 1 = k
      ·have : i = k - 1 := by omega
       subst this
       simp only [show k - 1 + 1 = k by omega]
       omega
      ·exact dU hinv i h (by omega)
     obtain ⟨y, hy⟩ : ∃ y, es[k] = y := ⟨_, rfl⟩
     have H3 : Hid (∀ (h : k + 1 - 1 < es.length), 0 < k + 1 → y.pl = es[k + 1 - 1].pl) := fun _ _ => by simp only [Nat.add_sub_cancel, hy]
     rw [hy] at c0 c1 c2 hle
     clear hinv hlast hl0 he hy
     obtain ⟨y0, y1, y2⟩ := y
     simp only at *
     go_wp2
     go_roundw
     case rel => exact ⟨k + 1, y1, by first | trivial | rfl, by go_num, by omega, H2, H3, bA _⟩
     case measure => simp [intOf]; omega
   ·have hk0 : k = 0 := by omega
    have H2 : Hid (∀ i (h : i + 1 < es.length), i + 1 < k + 1 → es[i].pl < es[i + 1].pl) := fun i h hi => by omega
    obtain ⟨y, hy⟩ : ∃ y, es[k] = y := ⟨_, rfl⟩
    have H3 : Hid (∀ (h : k + 1 - 1 < es.length), 0 < k + 1 → y.pl = es[k + 1 - 1].pl) := fun _ _ => by simp only [Nat.add_sub_cancel, hy]
    rw [hy] at c0 c1 c2
    clear hinv hlast he hk0 hy
    obtain ⟨y0, y1, y2⟩ := y
    simp only at *
    go_wp2
    go_roundw
    case rel => exact ⟨k + 1, y1, by first | trivial | rfl, by go_num, by omega, H2, H3, bA _⟩
    case measure => simp [intOf]; omega
  ·have R := dH (show RetB Q (.returned (.bool true)) from RetB.yes ((dU PQ).2 fun i h => dU hinv i h (by omega)))
   have B2 := bT B1 hb
   clear hinv hlast PQ HU
   go_wp2
   go_ret
   exact ⟨dU R, B2⟩
theorem evK_yes (ks : List Int) (l : List Ev) (k : Nat) (h : k < l.length) (hx : l[k].kind ∈ ks) : evK ks (l.take (k + 1)) = evK ks (l.take k) ++ [l[k]] := by
 unfold evK
 rw [List.take_succ_eq_append_getElem h, List.filter_append]
 simp [hx]
theorem evK_no (ks : List Int) (l : List Ev) (k : Nat) (h : k < l.length) (hx : ¬ l[k].kind ∈ ks) : evK ks (l.take (k + 1)) = evK ks (l.take k) := by
 unfold evK
 rw [List.take_succ_eq_append_getElem h, List.filter_append]
 simp [hx]
theorem ascV_one (x : Ev) : ascV [x] := fun i h => by simp at h
theorem ascV_snoc (l : List Ev) (y x : Ev) : ascV (l ++ [y] ++ [x]) ↔ ascV (l ++ [y]) ∧ y.pl < x.pl := by
 have g : ∀ i (h : i < l.length + 1) (h1 : i < (l ++ [y] ++ [x]).length) (h2 : i < (l ++ [y]).length), (l ++ [y] ++ [x])[i] = (l ++ [y])[i] := fun i h h1 h2 => List.getElem_append_left h2
 have gy : ∀ (h : l.length < (l ++ [y]).length), (l ++ [y])[l.length] = y := fun h => by simp
 have gx : ∀ (h : l.length + 1 < (l ++ [y] ++ [x]).length), (l ++ [y] ++ [x])[l.length + 1] = x := fun h => by simp
 have n1 : (l ++ [y]).length = l.length + 1 := by simp
 have n2 : (l ++ [y] ++ [x]).length = l.length + 1 + 1 := by simp
 constructor
 ·intro h
  refine ⟨fun i hi => ?_, ?_⟩
  ·have q := h i (by omega)
   rw [g i (by omega) (by omega) (by omega), g (i + 1) (by omega) (by omega) (by omega)] at q
   exact q
  ·have q := h l.length (by omega)
   rw [g l.length (by omega) (by omega) (by omega), gy (by omega), gx (by omega)] at q
   exact q
 ·rintro ⟨h1, h2⟩ i hi
  by_cases e : i = l.length
  ·subst e
   rw [g l.length (by omega) (by omega) (by omega), gy (by omega), gx (by omega)]
   exact h2
  ·rw [g i (by omega) (by omega) (by omega), g (i + 1) (by omega) (by omega) (by omega)]
   exact h1 i (by omega)
theorem ascV_pre (ks : List Int) (l : List Ev) (k : Nat) (h : ascV (evK ks l)) : ascV (evK ks (l.take k)) := by
 have e : evK ks l = evK ks (l.take k) ++ evK ks (l.drop k) := by unfold evK; rw [← List.filter_append, List.take_append_drop]
 intro i hi
 have hl : i + 1 < (evK ks l).length := by rw [e, List.length_append]; omega
 have q := h i hl
 simp only [e] at q
 have g1 : (evK ks (l.take k) ++ evK ks (l.drop k))[i]'(by rw [List.length_append]; omega) = (evK ks (l.take k))[i] := List.getElem_append_left _
 have g2 : (evK ks (l.take k) ++ evK ks (l.drop k))[i + 1]'(by rw [List.length_append]; omega) = (evK ks (l.take k))[i + 1] := List.getElem_append_left _
 rw [g1, g2] at q
 exact q
def LastV (ks : List Int) (l : List Ev) (k : Nat) (last : Int) : Prop := (last = -1 ∧ evK ks (l.take k) = []) ∨ ∃ j : Nat, last = (j : Int) ∧ ∃ h : j < l.length, j < k ∧ ∃ F, evK ks (l.take k) = F ++ [l[j]]
theorem LastV.no {ks : List Int} {l : List Ev} {k : Nat} {last : Int} (h : LastV ks l k last) (hk : k < l.length) (hx : ¬ l[k].kind ∈ ks) : LastV ks l (k + 1) last := by
 rcases h with ⟨h1, h2⟩ | ⟨j, h1, h2, h3, F, h4⟩
 ·exact .inl ⟨h1, by rw [evK_no ks l k hk hx]; exact h2⟩
 ·exact .inr ⟨j, h1, h2, by omega, F, by rw [evK_no ks l k hk hx]; exact h4⟩
theorem LastV.yes {ks : List Int} {l : List Ev} {k : Nat} (hk : k < l.length) (hx : l[k].kind ∈ ks) : LastV ks l (k + 1) (k : Int) := .inr ⟨k, rfl, hk, by omega, _, evK_yes ks l k hk hx⟩
theorem placed_any (z : Ev) (w : World) : Calls Tryz.prog 65 #[z.val] w fun e w' => RetB (z.kind ∈ [1, 2, 3]) e ∧ Below w.heap.size w w' := by
 obtain ⟨y0, y1, y2⟩ := z
 have B0 : Below w.heap.size w (w.alloc (.cells #[.int .i64 y0, .int .i64 y1, .string y2] 81)) := (Below.refl _ _).alloc (Nat.le_refl _) _
 have C := dH fun W => l1In_any y0 1 3 W
 have E : Hid (∀ e, RetB (1 ≤ y0 ∧ y0 ≤ 3) e → RetB (y0 ∈ [1, 2, 3]) e) := fun e h => by
  obtain ⟨b, h1, h2⟩ := h
  refine ⟨b, h1, h2.trans ⟨fun h => ?_, fun h => ?_⟩⟩
  ·have : y0 = 1 ∨ y0 = 2 ∨ y0 = 3 := by omega
   simpa using this
  ·have : y0 = 1 ∨ y0 = 2 ∨ y0 = 3 := by simpa using h
   omega
 show Calls Tryz.prog 65 #[.agg #[.int .i64 y0, .int .i64 y1, .string y2]] w _
 go_enter Tryz.func65, Tryz.ntmps65
 go_wp2_with fail
 refine (dU C _).mono ?_
 rintro e w1 ⟨q, rfl⟩
 obtain ⟨b, rfl, h⟩ := q
 have R := dH (dU E _ (⟨b, rfl, h⟩ : RetB (1 ≤ y0 ∧ y0 ≤ 3) (.returned (.bool b))))
 clear h E C
 go_wp2
 go_ret
 exact ⟨dU R, B0⟩
set_option maxHeartbeats 8000000 in
theorem order1_any (v : Value) (m : Rr) (w : World) (hv : RdReader v m w) :
  Calls Tryz.prog 33 #[v] w fun e w' => RetB (ordR m) e ∧ Below w.heap.size w w' := by
 have PQ : Hid (ordR m ↔ ascV (evK [1, 2, 3] m.out)) := Iff.rfl
 generalize ordR m = Q at *
 obtain ⟨sv, rfl, hs⟩ := hv
 have HU := dH fun W (hb : Below w.heap.size w W) => hs.below hb
 obtain ⟨sa, sc, rfl, hul⟩ := formEventS hs
 clear hs
 have B0 : Below w.heap.size w (w.alloc (.cells #[.int .i64 m.epoch, .int .i64 m.off, .slice sa m.out.length sc] 62)) := (Below.refl _ _).alloc (Nat.le_refl _) _
 have X0 := Bx.new w [.int .i64 m.epoch, .int .i64 m.off, .slice sa m.out.length sc] 62
 generalize m.out = es at *
 generalize m.epoch = ep at *
 generalize m.off = of at *
 have AS : Hid (ascV (evK [1, 2, 3] (es.take es.length)) ↔ Q) := by rw [Hid, List.take_length]; exact (dU PQ).symm
 have AN : Hid (∀ k, ¬ ascV (evK [1, 2, 3] (es.take k)) → ¬ Q) := fun k h q => h (ascV_pre _ es k ((dU PQ).1 q))
 clear PQ
 go_enter Tryz.func33, Tryz.ntmps33
 go_wp2
 generalize w.alloc (.cells #[.int .i64 ep, .int .i64 of, .slice sa es.length sc] 62) = w0 at *
 go_loopw [3, 4] (fun x y wr => ∃ (k : Nat) (last : Int), x = .int .i64 last ∧ y = .int .i64 (k : Int) ∧ k ≤ es.length ∧ Hid (ascV (evK [1, 2, 3] (es.take k))) ∧ Hid (LastV [1, 2, 3] es k last) ∧ Below w0.heap.size w0 wr) (fun _ y _ => es.length - (intOf y).toNat)
 case atStart => exact ⟨0, -1, rfl, rfl, Nat.zero_le _, fun i h => by simp [evK] at h, .inl ⟨rfl, by simp [evK]⟩, Below.refl _ _⟩
 case round =>
  obtain ⟨k, last, rfl, rfl, hk, hasc, hlast, hb⟩ := hrel
  have k2 := (X0.below hb) 2 _ rfl
  by_cases hlt : (k : Int) < (es.length : Int)
  ·have hkl : k < es.length := by omega
   obtain ⟨b, off, rfl, he⟩ := (dU HU wr (bT B0 hb)).atEv hkl
   obtain ⟨c0, c1, c2⟩ := he k hkl
   have CP := dH (placed_any es[k] wr)
   by_cases hx : es[k].kind ∈ [1, 2, 3]
   ·have L2 := dH (LastV.yes hkl hx)
    have EY := dH (evK_yes [1, 2, 3] es k hkl hx)
    rcases dU hlast with ⟨rfl, hnil⟩ | ⟨j, rfl, hjl, hjk, F, hF⟩
    ·have A2 : Hid (ascV (evK [1, 2, 3] (es.take (k + 1)))) := by rw [Hid, dU EY, hnil]; exact ascV_one _
     clear hnil EY hlast hasc he
     unfold Ev.val at CP
     go_wp2_with fail
     refine (dU CP).mono ?_
     rintro e w1 ⟨q, b1⟩
     obtain rfl := q.of_yes hx
     have B2 := bT hb b1
     have k2' := (X0.below B2) 2 _ rfl
     clear CP q b1 hx c0 c1 c2
     go_wp2_with fail
     go_quiet (fail)
     go_wp2
     go_roundw
     case rel => exact ⟨k + 1, (k : Int), by first | trivial | rfl, by go_num, by omega, A2, L2, below_drewN B2 _⟩
     case measure => simp [intOf]; omega
    ·have AA : Hid (ascV (evK [1, 2, 3] (es.take (k + 1))) ↔ es[j].pl < es[k].pl) := by
      rw [Hid, dU EY, hF, ascV_snoc]
      exact ⟨fun h => h.2, fun h => ⟨by rw [← hF]; exact dU hasc, h⟩⟩
     have RN : Hid (¬ es[j].pl < es[k].pl → RetB Q (.returned (.bool false))) := fun h => RetB.no (dU AN (k + 1) fun q => h ((dU AA).1 q))
     clear hF EY hlast hasc he
     unfold Ev.val at CP
     go_wp2_with fail
     refine (dU CP).mono ?_
     rintro e w1 ⟨q, b1⟩
     obtain rfl := q.of_yes hx
     have B2 := bT hb b1
     have k2' := (X0.below B2) 2 _ rfl
     obtain ⟨b', off', e', he'⟩ := (dU HU w1 (bT B0 B2)).atEv hkl
     simp only [Option.some.injEq, Addr.mk.injEq, and_true] at e'
     obtain ⟨rfl, rfl⟩ := e'
     obtain ⟨-, c1, -⟩ := he' k hkl
     obtain ⟨-, d1, -⟩ := he' j hjl
     have hj0 : (0 : Int) ≤ (j : Int) := by omega
     have hj1 : (j : Int) < (es.length : Int) := by omega
     clear CP q b1 hx c0 c2 he'
     by_cases hge : es[k].pl ≤ es[j].pl
     ·have R := dH (dU RN (by omega))
      have hd : decide (es[k].pl ≤ es[j].pl) = true := decide_eq_true hge
      have B3 := bT B0 B2
      clear RN AA L2 AN AS
      generalize es[k].pl = pk at *
      generalize es[j].pl = pj at *
      go_wp2_with fail
      go_quiet (fail)
      go_wp2
      go_ret
      exact ⟨dU R, below_drewN B3 _⟩
     ·have A2 := dH ((dU AA).2 (by omega))
      have hd : decide (es[k].pl ≤ es[j].pl) = false := decide_eq_false hge
      clear RN AA
      generalize es[k].pl = pk at *
      generalize es[j].pl = pj at *
      go_wp2_with fail
      go_quiet (fail)
      go_wp2
      go_roundw
      case rel => exact ⟨k + 1, (k : Int), by first | trivial | rfl, by go_num, by omega, A2, L2, below_drewN B2 _⟩
      case measure => simp [intOf]; omega
   ·have L2 := dH ((dU hlast).no hkl hx)
    have A2 : Hid (ascV (evK [1, 2, 3] (es.take (k + 1)))) := by rw [Hid, evK_no [1, 2, 3] es k hkl hx]; exact dU hasc
    clear hlast hasc he
    unfold Ev.val at CP
    go_wp2_with fail
    refine (dU CP).mono ?_
    rintro e w1 ⟨q, b1⟩
    obtain rfl := q.of_no hx
    have B2 := bT hb b1
    clear CP q b1 hx c0 c1 c2
    go_wp2
    go_roundw
    case rel => exact ⟨k + 1, last, by first | trivial | rfl, by go_num, by omega, A2, L2, B2⟩
    case measure => simp [intOf]; omega
  ·have ek : k = es.length := by omega
   subst ek
   have R := dH (show RetB Q (.returned (.bool true)) from RetB.yes ((dU AS).1 (dU hasc)))
   have B2 := bT B0 hb
   clear hasc hlast HU AS AN
   go_wp2
   go_ret
   exact ⟨dU R, B2⟩
def orderP (m : Wo) : Prop := woP m ∧ ∀ r ∈ m.readers, ordR r
theorem orderC_any (bx : Nat) (rv : Value) (l : List Rr) (w : World) (hc : w.cell? ⟨bx, 8, none⟩ = some rv) (hr : RdReaderS rv l w) (hl : ∀ r ∈ l, r.out.length ≤ 1048576) :
  Calls Tryz.prog 115 #[.pointer (some ⟨bx, 0, none⟩)] w fun e w' => RetB (∀ r ∈ l, ordR r) e ∧ Below w.heap.size w w' := by
 have C1 := dH (everyReader_any _ l RdReader 117 #[] ordR w (by intro args w; rfl) hr (fun h b => h.below b) fun W' hb' u x hx hu => rInOrder_any u x W' hu (hl x hx))
 obtain ⟨ra, rc, rfl, -⟩ := formD hr
 clear hr hl
 generalize l.length = n at *
 go_enter Tryz.func115, Tryz.ntmps115
 go_wp2_with fail
 refine (dU C1).mono ?_
 rintro e w1 ⟨⟨q, rfl, h⟩, b1⟩
 have R := dH (show RetB (∀ r ∈ l, ordR r) (.returned (.bool q)) from ⟨q, rfl, h⟩)
 clear C1 h
 cases q
 all_goals
  go_wp2
  go_ret
  exact ⟨dU R, b1⟩
theorem readerIn {W : World} {a : Option Addr} {n cap : Nat} {l : List Rr} (h : RdReaderS (.slice a n cap) l W) {k : Nat} (hk : k < l.length) : ∃ b off sv, a = some ⟨b, off, none⟩ ∧ W.cell? ⟨b, off + k * 3, none⟩ = some (.int .i64 l[k].epoch) ∧ W.cell? ⟨b, off + k * 3 + 1, none⟩ = some (.int .i64 l[k].off) ∧ W.cell? ⟨b, off + k * 3 + 2, none⟩ = some sv ∧ RdReader (.agg #[.int .i64 l[k].epoch, .int .i64 l[k].off, sv]) l[k] W := by
 obtain ⟨rs, rfl, hr, hn⟩ := h
 have hk' : k < rs.length := by simpa using hk
 obtain ⟨b, off, rfl, hc⟩ := hr.pd hk'
 have hR := hn rs[k] (List.getElem_mem hk')
 obtain ⟨sv, e, hs⟩ := id hR
 rw [List.getElem_map]
 have ec : rs[k].c = [.int .i64 rs[k].m.epoch, .int .i64 rs[k].m.off, sv] := by
  unfold Pd.val at e
  simp only [Value.agg.injEq] at e
  have := congrArg Array.toList e
  simpa using this
 refine ⟨b, off, sv, rfl, hc k hk' 0 _ (by rw [ec]; rfl), hc k hk' 1 _ (by rw [ec]; rfl), hc k hk' 2 _ (by rw [ec]; rfl), ?_⟩
 rw [← e]
 exact hR
set_option maxHeartbeats 8000000 in
theorem specOrder_any (v : Value) (m : Wo) (w : World) (ok : okWorld m) (hs : sizWorld m ≤ 1048576) (hv : RdWorld v m w) :
  Calls Tryz.prog 10 #[v] w fun e w' => RetB (orderP m) e ∧ Below w.heap.size w w' := by
 have CW := dH fun W (hb : Below w.heap.size w W) => specWorldOk_any v m W ok hs (hv.below hb)
 obtain ⟨da, dc, sa, sc, la, lc, ea, ec, wa, wc, na, nc, ra, rc', ta, tc, rfl, hd, hst, hlo, hre, hwr, hme, hrd, hse⟩ := partsWorld hv
 clear hd hst hlo hre hwr hme hse hs ok
 have HR := dH fun W (hb : Below w.heap.size w W) => RdReaderS.below hrd hb
 clear hrd hv
 have WP : Hid (orderP m ↔ woP m ∧ ∀ r ∈ m.readers, ordR r) := Iff.rfl
 have WL : Hid (woP m → m.readers.length = 2) := fun h => h.2.2.1.1
 generalize woP m = PW at *
 generalize orderP m = PQ at *
 obtain ⟨⟨ds, cop⟩, stores, lost, ⟨eras, trim⟩, writers, mends, readers, sent, torn⟩ := m
 simp only at *
 have B0 : Below w.heap.size w (w.alloc (.cells #[.slice da ds.length dc, .int .i64 cop, .slice sa stores.length sc, .slice la lost.length lc, .slice ea eras.length ec, .int .i64 trim, .slice wa writers.length wc, .slice na mends.length nc, .slice ra readers.length rc', .slice ta sent.length tc, .bool torn] 47)) := (Below.refl _ _).alloc (Nat.le_refl _) _
 have X0 := Bx.new w [.slice da ds.length dc, .int .i64 cop, .slice sa stores.length sc, .slice la lost.length lc, .slice ea eras.length ec, .int .i64 trim, .slice wa writers.length wc, .slice na mends.length nc, .slice ra readers.length rc', .slice ta sent.length tc, .bool torn] 47
 go_enter Tryz.func10, Tryz.ntmps10
 go_wp2_with fail
 generalize w.alloc (.cells #[.slice da ds.length dc, .int .i64 cop, .slice sa stores.length sc, .slice la lost.length lc, .slice ea eras.length ec, .int .i64 trim, .slice wa writers.length wc, .slice na mends.length nc, .slice ra readers.length rc', .slice ta sent.length tc, .bool torn] 47) = w0 at *
 refine (dU CW _ B0).mono ?_
 rintro e w1 ⟨⟨q, rfl, hq⟩, b1⟩
 have B1 := bT B0 b1
 have X1 := X0.below b1
 cases q
 ·have R := dH (show RetB PQ (.returned (.bool false)) from RetB.no fun h => by have := hq.2 ((dU WP).1 h).1; cases this)
  clear hq CW b1 X0 B0 HR WP X1 WL
  go_wp2
  go_ret
  exact ⟨dU R, B1⟩
 have HQ := dH (hq.1 rfl)
 have HL := dH (dU WL (hq.1 rfl))
 clear hq CW b1 X0 B0 WL
 have h0 : 0 < readers.length := by rw [dU HL]; omega
 have h1 : 1 < readers.length := by rw [dU HL]; omega
 have i0 : (0 : Int) < (readers.length : Int) := by omega
 have i1 : (1 : Int) < (readers.length : Int) := by omega
 obtain ⟨b, off, sv, rfl, c0, c1, c2, hR⟩ := readerIn (dU HR _ B1) h0
 have k8 := X1 8 _ rfl
 have C0 := dH (order1_any _ _ _ hR)
 obtain ⟨sv', esv, hes⟩ := hR
 simp only [Value.agg.injEq] at esv
 obtain rfl : sv = sv' := by simpa using esv
 obtain ⟨s0a, s0c, rfl, -⟩ := formEventS hes
 clear esv hes
 simp only [Nat.zero_mul, Nat.add_zero] at c0 c1 c2
 have F0 : Hid (PQ ↔ ordR readers[0] ∧ ordR readers[1]) := (dU WP).trans ⟨fun h => ⟨h.2 _ (List.getElem_mem h0), h.2 _ (List.getElem_mem h1)⟩, fun h => ⟨dU HQ, fun r hr => by
  obtain ⟨i, hi, rfl⟩ := List.getElem_of_mem hr
  have : i = 0 ∨ i = 1 := by rw [dU HL] at hi; omega
  rcases this with rfl | rfl
  ·exact h.1
  ·exact h.2⟩⟩
 clear WP HQ
 generalize hn0 : readers[0] = r0 at *
 have HN0 := dH hn0
 clear hn0
 go_wp2_with fail
 refine (dU C0).mono ?_
 rintro e w2 ⟨⟨q0, rfl, hq0⟩, b2⟩
 have B2 := bT B1 b2
 cases q0
 ·have R := dH (show RetB PQ (.returned (.bool false)) from RetB.no fun h => by have := hq0.2 ((dU F0).1 h).1; cases this)
  clear hq0 C0 b2 B1 HR X1 F0 HN0 HL c0 c1 c2
  go_wp2
  go_ret
  exact ⟨dU R, B2⟩
 have hq0' := dH (hq0.1 rfl)
 obtain ⟨b', off', sv', e', d0, d1, d2, hR⟩ := readerIn (dU HR _ B2) h1
 simp only [Option.some.injEq, Addr.mk.injEq, and_true] at e'
 obtain ⟨rfl, rfl⟩ := e'
 have k8' := (X1.below b2) 8 _ rfl
 have C1 := dH (order1_any _ _ _ hR)
 obtain ⟨sv1, esv, hes⟩ := hR
 simp only [Value.agg.injEq] at esv
 obtain rfl : sv' = sv1 := by simpa using esv
 obtain ⟨s1a, s1c, rfl, -⟩ := formEventS hes
 clear esv hes hq0 C0 b2 B1 HR X1 k8 c0 c1 c2 HN0 HL
 simp only [Nat.one_mul] at d0 d1 d2
 generalize readers[1] = r1 at *
 go_wp2_with fail
 refine (dU C1).mono ?_
 rintro e w3 ⟨⟨q1, rfl, hq1⟩, b3⟩
 have B3 := bT B2 b3
 have R := dH (show RetB PQ (.returned (.bool q1)) from ⟨q1, rfl, hq1.trans ⟨fun h => (dU F0).2 ⟨dU hq0', h⟩, fun h => ((dU F0).1 h).2⟩⟩)
 clear hq1 C1 b3 B2 F0 hq0' d0 d1 d2 k8'
 cases q1
 all_goals
  go_wp2
  go_ret
  exact ⟨dU R, B3⟩
end Go.Proofs.YtekgkjomdpjkbaaGreat
