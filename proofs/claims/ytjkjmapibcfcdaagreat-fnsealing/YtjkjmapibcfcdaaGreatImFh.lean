/- impl's sortedList.keep. -/
import Derived.Test.YtjkjmapibcfcdaaGreatImFc
import Derived.Test.YtjkjmapibcfcdaaGreatGbI
import Derived.Test.YtjkjmapibcfcdaaGreatGbE
import Derived.Deep.RegionWith
namespace Go.Proofs.YtjkjmapibcfcdaaGreat
open Go.ChangeShapes Go.WideShapes Go.ChangeAt Go.RowKit
set_option linter.unusedVariables false
set_option linter.unusedSimpArgs false
set_option maxRecDepth 100000

theorem fcells_set (ms : List Ent) (i : Nat) (hi : i < ms.length) (y : Ent) : ((((fcells Ent.cl ms).set (i * 4) (.int .i64 y.pl)).set (i * 4 + 1) (.int .i64 y.wave)).set (i * 4 + 2) (.bool y.hole)).set (i * 4 + 3) (.string y.data) = fcells Ent.cl (ms.set i y) := by
 have h1 : ms = ms.take i ++ ms[i] :: ms.drop (i + 1) := by rw [List.getElem_cons_drop, List.take_append_drop]
 have h2 : ms.set i y = ms.take i ++ y :: ms.drop (i + 1) := by
  rw [List.set_eq_take_append_cons_drop, if_pos hi]
 have hl : (fcells Ent.cl (ms.take i)).length = i * 4 := by rw [fcells_len elemE.len, List.length_take]; congr 1; omega
 have e1 : fcells Ent.cl ms = fcells Ent.cl (ms.take i) ++ (.int .i64 ms[i].pl :: .int .i64 ms[i].wave :: .bool ms[i].hole :: .string ms[i].data :: fcells Ent.cl (ms.drop (i + 1))) := by
  have := congrArg (fcells Ent.cl) h1
  rw [fcells_app] at this
  exact this
 have e2 : fcells Ent.cl (ms.set i y) = fcells Ent.cl (ms.take i) ++ (.int .i64 y.pl :: .int .i64 y.wave :: .bool y.hole :: .string y.data :: fcells Ent.cl (ms.drop (i + 1))) := by
  rw [h2, fcells_app]
  rfl
 rw [e1, e2, ← hl]
 generalize fcells Ent.cl (ms.take i) = A
 simp [List.set_append]
theorem ApE.stored {w : World} {base g c : Nat} {ms : List Ent} (h : w.ownsRow base 36 4 (.slice (some ⟨g, 0, none⟩) ms.length c) ms.length (fcells Ent.cl ms)) {i : Nat} (hi : i < ms.length) (y : Ent) :
  ((((w.setCell ⟨g, i * 4, none⟩ (.int .i64 y.pl)).setCell ⟨g, i * 4 + 1, none⟩ (.int .i64 y.wave)).setCell ⟨g, i * 4 + 2, none⟩ (.bool y.hole)).setCell ⟨g, i * 4 + 3, none⟩ (.string y.data)).ownsRow base 36 4 (.slice (some ⟨g, 0, none⟩) ms.length c) ms.length (fcells Ent.cl (ms.set i y)) ∧
  w.grownBy ((((w.setCell ⟨g, i * 4, none⟩ (.int .i64 y.pl)).setCell ⟨g, i * 4 + 1, none⟩ (.int .i64 y.wave)).setCell ⟨g, i * 4 + 2, none⟩ (.bool y.hole)).setCell ⟨g, i * 4 + 3, none⟩ (.string y.data)) (some g) := by
 have s1 := h.stored (i * 4) (.int .i64 y.pl)
 have s2 := s1.1.stored (i * 4 + 1) (.int .i64 y.wave)
 have s3 := s2.1.stored (i * 4 + 2) (.bool y.hole)
 have s4 := s3.1.stored (i * 4 + 3) (.string y.data)
 rw [← fcells_set ms i hi y]
 exact ⟨s4.1, grown_trans (grown_trans (grown_trans s1.2 s2.2) s3.2) s4.2⟩
theorem InsQ.before {w w1 : World} {base : Nat} {v : Value} {ns : List Ent} {r : Ending} {w' : World} (hb : Below w.heap.size w w1) (h : InsQ w1 base v ns r w') : InsQ w base v ns r w' := by
 obtain ⟨v', h1, h2, h3, h4⟩ := h
 refine ⟨v', h1, h2, ⟨h3.os.trans hb.os, h3.tape.trans hb.tape, h3.output.trans hb.output, Nat.le_trans hb.size h3.size, fun k hk hn => (h3.block k (Nat.lt_of_lt_of_le hk hb.size) hn).trans (hb.block k hk)⟩, ?_⟩
 rcases h4 with h4 | h4
 ·exact .inl h4
 ·exact .inr fun k hk => Nat.le_trans hb.size (h4 k hk)
set_option maxHeartbeats 4000000 in
theorem keep_any (v : Value) (ms : List Ent) (e : Ent) (w : World) (base : Nat) (h : ApE w base v ms) (ha : ascE ms) (hl : ms.length ≤ 1048576) (hbase : base ≤ w.heap.size) :
  Calls Tryz.prog 76 #[v, e.val, .func (.func 77) #[] #[]] w (InsQ w base v (keepL e ms)) := by
 have ba : ∀ (w : World) o, Below w.heap.size w (w.alloc o) := fun w o => (Below.refl _ _).alloc (Nat.le_refl _) o
 have HF := dH fun W (hb : Below w.heap.size w W) => find_any v ms e.pl W ((ApR.own elemE h).rw.below hb) ha hl
 have HI := dH fun W (hb : Below w.heap.size w W) i hi => insert_any v ms e (W.alloc (.cells e.cl.toArray 36)) base i W.heap.size 36 (h.below (bT hb (ba _ _))) (MapKept.heap_alloc W _).1 (fun ht => by have := (h.touched elemE ht).2; have := hb.size; omega) hl hi (by have := hb.size; simp; omega)
 have HP := dH fun W => place_any e W
 have HB := dH fun a W => implBetter_any a e W
 have HQ : Hid (∀ W, Below w.heap.size w W → ∀ r w' ns, InsQ (W.alloc (.cells e.cl.toArray 36)) base v ns r w' → InsQ w base v ns r w') := fun W hb r w' ns hq => hq.before (bT hb (ba _ _))
 have H := dH h
 have KN : Hid (∀ i, posP ms e.pl i → ¬ foundP ms e.pl i → ms.take i ++ e :: ms.drop i = keepL e ms) := fun i hp hn => (keepL_new hp fun hi he => hn ⟨hi, he⟩).symm
 have KO : Hid (∀ i (hi : i < ms.length), posP ms e.pl i → ms[i].pl = e.pl → ms.set i (better ms[i] e) = keepL e ms) := fun i hi hp he => (keepL_old hp hi he).symm
 obtain ⟨a, c, rfl⟩ := ApR.slice elemE h
 obtain ⟨x, wv, ho, d⟩ := e
 unfold Ent.val Ent.cl at *
 simp only at *
 clear h ha
 have B0 := ba w (.cells #[.int .i64 x, .int .i64 wv, .bool ho, .string d] 36)
 have X0 := Bx.new w [.int .i64 x, .int .i64 wv, .bool ho, .string d] 36
 go_enter Tryz.func76, Tryz.ntmps76
 go_wp2_with fail
 generalize w.alloc (.cells #[.int .i64 x, .int .i64 wv, .bool ho, .string d] 36) = w0 at *
 refine (dU HP _).mono ?_
 rintro r w1 ⟨rfl, b1⟩
 have B1 := bT B0 b1
 have X1 := X0.below b1
 clear B0 b1 X0
 go_wp2_with fail
 refine (dU HF _ B1).mono ?_
 rintro r w2 ⟨⟨i, fb, rfl, hp, hfb⟩, b2⟩
 have B2 := bT B1 b2
 have X2 := X1.below b2
 clear B1 b2 X1
 have p0 := X2 0 _ rfl
 have p1 := X2 1 _ rfl
 have p2 := X2 2 _ rfl
 have p3 := X2 3 _ rfl
 cases fb
 ·have eK := dU KN i hp (fun hf => by have := hfb.2 hf; cases this)
  have CI := dH (dU HI w2 B2 i hp.1)
  have CQ := dH (dU HQ w2 B2)
  clear HI HQ KO KN HF HP HB hfb
  rw [eK] at CI
  go_wp2_with fail
  refine (dU CI).mono ?_
  intro r w3 hq
  have F := dH (dU CQ _ _ _ hq)
  obtain ⟨v', rfl, -⟩ := hq
  go_wp2
  go_ret
  exact dU F
 ·obtain ⟨hi, hfe⟩ := hfb.1 rfl
  have eK := dH (dU KO i hi hp hfe)
  have HB1 := dH (dU HB ms[i])
  clear HI HQ KO KN HF HP HB hfb hp
  rcases dU H with ⟨rfl, -⟩ | hrow
  ·simp at hi
  have hrow2 := rowR_below hrow B2
  rcases hrow.2 with ⟨e0, e1⟩ | ⟨g, c', cur, e0, hbg, -⟩
  ·omega
  cases e0
  have hgw : g < w.heap.size := (hrow.lt g rfl).2
  have hc0 : c ≠ 0 := by
   rcases hrow.2 with ⟨e0, -⟩ | ⟨g, c', cur, e0, -, -, hnc, -⟩
   ·cases e0
   ·cases e0; omega
  obtain ⟨b', off', e0, hc⟩ := (ownRw_of_row elemE.len elemE.pos hrow2).rw.ent hi
  cases e0
  have EA := hc i hi
  rw [Nat.zero_add] at EA
  have FIN : Hid (∀ w3, Below w2.heap.size w2 w3 → ∀ y : Ent, y = better ms[i] ⟨x, wv, ho, d⟩ → InsQ w base (.slice (some ⟨g, 0, none⟩) ms.length c) (keepL ⟨x, wv, ho, d⟩ ms) (.returned (.slice (some ⟨g, 0, none⟩) ms.length c)) ((((w3.setCell ⟨g, i * 4, none⟩ (.int .i64 y.pl)).setCell ⟨g, i * 4 + 1, none⟩ (.int .i64 y.wave)).setCell ⟨g, i * 4 + 2, none⟩ (.bool y.hole)).setCell ⟨g, i * 4 + 3, none⟩ (.string y.data))) := fun w3 hb y hy => by
   obtain ⟨s1, s2⟩ := ApE.stored (rowR_below hrow2 hb) hi y
   refine InsQ.before (bT B2 hb) ⟨_, rfl, .inr ?_, by simpa [touch, hc0] using s2, .inl rfl⟩
   rw [← dU eK, ← hy, List.length_set]
   exact s1
  have HFZ := dH fun W (hb : Below w2.heap.size w2 W) j => (rowR_below hrow2 hb).frozenAt j
  have HEA := dH EA
  have HX := dH X2
  generalize ms[i] = ei at *
  obtain ⟨x', wv', ho', d'⟩ := ei
  generalize hy : better ⟨x', wv', ho', d'⟩ ⟨x, wv, ho, d⟩ = y at *
  have FIN2 := dH fun w3 hb => dU FIN w3 hb y rfl
  obtain ⟨yx, yw, yh, yd⟩ := y
  obtain ⟨c0, c1, c2, c3⟩ := EA
  simp only at *
  clear hc hrow hrow2 eK H hfe hy FIN X2
  have t1 : (0 : Int) ≤ (i : Int) := by omega
  have t2 : (i : Int) < (ms.length : Int) := by omega
  have hb1 : Below w2.heap.size w2 w2.drew := (Below.refl _ _).drew
  generalize InsQ w base (.slice (some ⟨g, 0, none⟩) ms.length c) (keepL ⟨x, wv, ho, d⟩ ms) = Q at *
  go_wp2
  go_region_with (go_at_call 77; refine (dU HB1 _).mono ?_; rintro r w3 ⟨rfl, b3⟩; have hb3 := bT hb1 b3; have F := dH (dU FIN2 _ hb3); obtain ⟨r0, r1, r2, r3⟩ := (dU HEA).below hb3; have f0 := dU HFZ _ hb3 (i * 4); have f1 := dU HFZ _ hb3 (i * 4 + 1); have f2 := dU HFZ _ hb3 (i * 4 + 2); have f3 := dU HFZ _ hb3 (i * 4 + 3); clear b3 hb3)
  all_goals
   go_wp2
   first | exact dU F | (go_ret; exact dU F)
end Go.Proofs.YtjkjmapibcfcdaaGreat
