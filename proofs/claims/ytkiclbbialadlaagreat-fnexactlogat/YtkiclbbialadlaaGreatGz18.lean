/- Several texts in one: MnP, OpenV, RdO, WkA, WoB. -/
import Derived.Test.YtkiclbbialadlaaGreatGbO
import Derived.Test.YtkiclbbialadlaaGreatGaT
import Derived.Test.YtkiclbbialadlaaGreatGaC
import Derived.Test.YtkiclbbialadlaaGreatGaD
import Derived.Test.YtkiclbbialadlaaGreatGz17
import Derived.Test.YtkiclbbialadlaaGreatGz12
import Derived.Test.YtkiclbbialadlaaGreatRgC
import Derived.Test.YtkiclbbialadlaaGreatWrC
import Derived.Deep.DeepCutAuto
namespace Go.Proofs.YtkiclbbialadlaaGreat
open Go.ChangeShapes Go.WideShapes Go.ChangeAt Go.RowKit
set_option linter.unusedSimpArgs false
set_option linter.unusedVariables false
set_option maxRecDepth 100000
def lastO : List Ent → Int
 | [] => 0
 | [e] => e.pl % 4294967296
 | _ :: e :: l => lastO (e :: l)
theorem lastO_at : ∀ (es : List Ent) (h : 0 < es.length), lastO es = (es[es.length - 1]'(by omega)).pl % 4294967296
 | [], h => by simp at h
 | [e], _ => rfl
 | _ :: e :: l, _ => by
  rw [lastO, lastO_at (e :: l) (by simp)]
  simp
def seenP (m : Mn) (e : Ent) : Prop := entP e ∧ e.pl / 4294967296 = m.epoch ∧ e.wave < m.bye
def mnH (ds : List Int) (cop : Int) (m : Mn) : Prop := cfgP ds cop ∧ (1 ≤ m.epoch ∧ m.epoch ≤ 30) ∧ (m.epoch + 1 ≤ m.bye ∧ m.bye ≤ 30) ∧ nodesP ds cop m.sealed ∧ ascE m.seen
def wroteP (m : Mn) : Prop := (m.wrote.length : Int) = if m.planned then lastO m.seen else 0
def mnP (ds : List Int) (cop : Int) (m : Mn) : Prop := mnH ds cop m ∧ (∀ i (h : i < m.seen.length), seenP m m.seen[i]) ∧ (∀ i (h : i < m.wrote.length), nodesP ds cop m.wrote[i]) ∧ wroteP m
theorem mnP.seen {ds : List Int} {cop : Int} {m : Mn} (h : mnP ds cop m) : ∀ e ∈ m.seen, seenP m e := fun e he => by
 obtain ⟨i, hi, rfl⟩ := List.getElem_of_mem he
 exact h.2.1 i hi
theorem mnP.wrote {ds : List Int} {cop : Int} {m : Mn} (h : mnP ds cop m) : ∀ l ∈ m.wrote, nodesP ds cop l := fun e he => by
 obtain ⟨i, hi, rfl⟩ := List.getElem_of_mem he
 exact h.2.2.1 i hi
variable {H : Type} {enc : TypeId × Value → H} {W : World} {r : Reach} {b0 base : Nat} {held : Bool} {v : Value} {d : DataW H} {p : List MemPlace}
def fitEv (e : Ev) : Prop := (-9223372036854775808 ≤ e.kind ∧ e.kind ≤ 9223372036854775807) ∧ (-9223372036854775808 ≤ e.pl ∧ e.pl ≤ 9223372036854775807) ∧ e.data.size ≤ 9223372036854775807
def okReader (m : Rr) : Prop := okInt m.epoch ∧ okInt m.off ∧ ∀ e ∈ m.out, fitEv e
theorem txtR_of {m : Rr} (h : okReader m) : txtEv m.out := fun e he => (h.2.2 e he).2.2
theorem ev_cells {T : TypeId} {n : Nat} {cs : List Value} {x : DataW H × List MemPlace} {f0 f1 f2 : Field} (hu : Tryz.prog.underlying T = some (.struct #[f0, f1, f2])) (hC : Tryz.prog.cellsOf T = 3)
  (q0 : f0.type = 3 ∧ f0.offset = 0) (q1 : f1.type = 3 ∧ f1.offset = 1) (q2 : f2.type = 9 ∧ f2.offset = 2)
  (h : DataW.trod enc Tryz.prog W base (fun _ => true) held n T cs = some x) : ∃ e : Ev, cs = e.cl ∧ fitEv e := by
 obtain ⟨xs, n', _, rfl, hl, hlen, hf⟩ := DataW.trod_struct hu h
 rw [hC] at hl
 match cs, hl, xs, hlen with
 | [c0, c1, c2], _, [y0, y1, y2], _ =>
  have h0 := hf 0 f0 rfl
  have h1 := hf 1 f1 rfl
  have h2 := hf 2 f2 rfl
  rw [q0.1, q0.2, show Tryz.prog.cellsOf 3 = 1 from by kernel_rfl] at h0
  rw [q1.1, q1.2, show Tryz.prog.cellsOf 3 = 1 from by kernel_rfl] at h1
  rw [q2.1, q2.2, show Tryz.prog.cellsOf 9 = 1 from by kernel_rfl] at h2
  simp at h0 h1 h2
  obtain ⟨n0, e0, -, w0⟩ := DataW.trod_int Tryz.underlying3 h0
  obtain ⟨n1, e1, -, w1⟩ := DataW.trod_int Tryz.underlying3 h1
  obtain ⟨s2, e2, -, w2⟩ := DataW.trod_string Tryz.underlying9 h2
  simp at e0 e1 e2
  subst e0 e1 e2
  exact ⟨⟨n0, n1, s2⟩, rfl, bounds_i64 w0, bounds_i64 w1, w2⟩
theorem evs_read {fuel : Nat} {cs : List Value} {x : DataW H × List MemPlace} (h : DataW.trod enc Tryz.prog W base (fun _ => true) held fuel 117 cs = some x) : ∃ sv es, cs = [sv] ∧ Rw 3 Ev.cl W sv es ∧ ∀ e ∈ es, fitEv e :=
 rows_read (sz := 3) (cl := Ev.cl) (good := fitEv) Tryz.underlying117 (by kernel_rfl) (by decide) (fun _ => rfl) (fun n cs x hx => ev_cells Tryz.underlying216 (by kernel_rfl) ⟨rfl, rfl⟩ ⟨rfl, rfl⟩ ⟨rfl, rfl⟩ hx) h
def rrP (r : Rr) : Prop := (1 ≤ r.epoch ∧ r.epoch ≤ 31) ∧ (1 ≤ r.off ∧ r.off ≤ 61) ∧ r.out.length ≤ 120
theorem specReaderOk_any (v : Value) (m : Rr) (w : World) (hv : RdReader v m w) :
  Calls Tryz.prog 66 #[v] w fun e w' => RetB (rrP m) e ∧ Below w.heap.size w w' := by
 have ba : ∀ (w : World) o, Below w.heap.size w (w.alloc o) := fun w o => (Below.refl _ _).alloc (Nat.le_refl _) o
 obtain ⟨a, cap, rfl, hle⟩ := formReader hv
 have C1 := dH fun W => l1In_any m.epoch 1 31 W
 have C2 := dH fun W => l1In_any m.off 1 61 W
 have PD : Hid (rrP m ↔ (1 ≤ m.epoch ∧ m.epoch ≤ 31) ∧ (1 ≤ m.off ∧ m.off ≤ 61) ∧ m.out.length ≤ 120) := Iff.rfl
 generalize rrP m = P at *
 generalize m.epoch = y0 at *
 generalize m.off = y1 at *
 generalize m.out.length = n at *
 clear hv
 go_enter Tryz.func66, Tryz.ntmps66
 go_wp2_with fail
 refine (dU C1 _).mono ?_
 rintro e w1 ⟨⟨b1, rfl, h1⟩, rfl⟩
 clear C1
 cases b1
 ·have R : RetB P (.returned (.bool false)) := RetB.no fun h => by have := h1.2 ((dU PD).1 h).1; cases this
  clear h1
  go_wp2
  go_ret
  exact ⟨R, ba _ _⟩
 have H1 := dH (h1.1 rfl)
 clear h1
 go_wp2_with fail
 refine (dU C2 _).mono ?_
 rintro e w1 ⟨⟨b1, rfl, h1⟩, rfl⟩
 clear C2
 cases b1
 ·have R : RetB P (.returned (.bool false)) := RetB.no fun h => by have := h1.2 ((dU PD).1 h).2.1; cases this
  clear h1
  go_wp2
  go_ret
  exact ⟨R, ba _ _⟩
 have H2 := dH (h1.1 rfl)
 clear h1
 by_cases hn : (n : Int) ≤ 120
 ·have R : RetB P (.returned (.bool true)) := RetB.yes ((dU PD).2 ⟨dU H1, dU H2, by omega⟩)
  clear PD H1 H2
  go_wp2
  go_ret
  exact ⟨by simpa [hn] using R, ba _ _⟩
 ·have R : RetB P (.returned (.bool false)) := RetB.no fun h => by have := ((dU PD).1 h).2.2; omega
  clear PD H1 H2
  go_wp2
  go_ret
  refine ⟨?_, ba _ _⟩
  show RetB P (.returned (.bool (decide ((n : Int) ≤ 120))))
  rw [decide_eq_false (by omega)]
  exact R
set_option maxHeartbeats 2000000 in
theorem implReaderOk_any (v : Value) (m : Rr) (w : World) (hv : RdReader v m w) :
  Calls Tryz.prog 140 #[v] w fun e w' => RetB (rrP m) e ∧ Below w.heap.size w w' := by
 have ba : ∀ (w : World) o, Below w.heap.size w (w.alloc o) := fun w o => (Below.refl _ _).alloc (Nat.le_refl _) o
 obtain ⟨a, cap, rfl, hle⟩ := formReader hv
 have PD : Hid (rrP m ↔ (1 ≤ m.epoch ∧ m.epoch ≤ 31) ∧ (1 ≤ m.off ∧ m.off ≤ 61) ∧ m.out.length ≤ 120) := Iff.rfl
 generalize rrP m = P at *
 generalize m.epoch = y0 at *
 generalize m.off = y1 at *
 generalize m.out.length = n at *
 clear hv
 by_cases h1 : y0 < 1
 ·have R : RetB P (.returned (.bool false)) := RetB.no fun h => by have := (dU PD).1 h; omega
  clear PD
  go_enter Tryz.func140, Tryz.ntmps140
  go_wp2
  go_ret
  exact ⟨R, ba _ _⟩
 by_cases h2 : 31 < y0
 ·have R : RetB P (.returned (.bool false)) := RetB.no fun h => by have := (dU PD).1 h; omega
  clear PD
  go_enter Tryz.func140, Tryz.ntmps140
  go_wp2
  go_ret
  exact ⟨R, ba _ _⟩
 by_cases h3 : y1 < 1
 ·have R : RetB P (.returned (.bool false)) := RetB.no fun h => by have := (dU PD).1 h; omega
  clear PD
  go_enter Tryz.func140, Tryz.ntmps140
  go_wp2
  go_ret
  exact ⟨R, ba _ _⟩
 by_cases h4 : 61 < y1
 ·have R : RetB P (.returned (.bool false)) := RetB.no fun h => by have := (dU PD).1 h; omega
  clear PD
  go_enter Tryz.func140, Tryz.ntmps140
  go_wp2
  go_ret
  exact ⟨R, ba _ _⟩
 have R : RetB P (.returned (.bool (decide ((n : Int) ≤ 120)))) := by
  by_cases h5 : (n : Int) ≤ 120
  ·rw [decide_eq_true h5]
   exact RetB.yes ((dU PD).2 ⟨by omega, by omega, by omega⟩)
  ·rw [decide_eq_false h5]
   exact RetB.no fun h => by have := (dU PD).1 h; omega
 clear PD
 go_enter Tryz.func140, Tryz.ntmps140
 go_wp2
 go_ret
 exact ⟨R, ba _ _⟩
def nilSt (s : St) : Prop := s.kept.length = 0 ∧ s.late.length = 0 ∧ s.lock = 0
def nodP (m : Wo) : Prop := cfgP m.cfg.1 m.cfg.2 ∧ m.stores.length = m.cfg.1.length ∧ nodesP m.cfg.1 m.cfg.2 m.lost ∧ (holdsP m.cfg.1 m.cfg.2 m.lost → m.torn = true) ∧ ∀ i (h : i < m.stores.length), stP m.stores[i] ∧ ((i : Int) ∈ m.lost → nilSt m.stores[i])
def wriP (m : Wo) (i : Nat) (h : i < m.writers.length) : Prop := wrP m.cfg.1 m.cfg.2 m.writers[i] ∧ m.writers[i].epoch ≤ (m.reg.eras.length : Int) ∧ (0 < i → (m.writers[i - 1]'(by omega)).epoch < m.writers[i].epoch)
def epoP (m : Wo) : Prop := regP m.cfg.1 m.cfg.2 m.reg ∧ m.writers.length ≤ 4 ∧ m.mends.length ≤ 1 ∧ (∀ i (h : i < m.writers.length), wriP m i h) ∧ ∀ i (h : i < m.mends.length), mnP m.cfg.1 m.cfg.2 m.mends[i] ∧ m.mends[i].bye = (m.reg.eras.length : Int) ∧ m.mends[i].epoch = (firstO m.reg.eras : Int)
def senQ (m : Wo) (i : Nat) (h : i < m.sent.length) : Prop := plIn m.reg.eras.length m.sent[i].pl ∧ m.sent[i].data.size ≤ 40 ∧ (0 < i → (m.sent[i - 1]'(by omega)).pl < m.sent[i].pl)
def senP (m : Wo) : Prop := m.sent.length ≤ 120 ∧ ∀ i (h : i < m.sent.length), senQ m i h
def reaP (m : Wo) : Prop := m.readers.length = 2 ∧ ∀ x ∈ m.readers, rrP x
def woP (m : Wo) : Prop := nodP m ∧ epoP m ∧ reaP m ∧ senP m
def ivS (m : Wo) : Prop := m.stores.length = m.cfg.1.length ∧ ∀ x ∈ m.stores, stP x
def ivL (m : Wo) : Prop := nodesP m.cfg.1 m.cfg.2 m.lost ∧ ∀ x ∈ m.lost, nilSt (m.stores.getD x.toNat ⟨[], [], 0⟩)
def ivT (m : Wo) : Prop := m.torn = true ∨ ¬ holdsP m.cfg.1 m.cfg.2 m.lost
def ascBy {α : Type} (f : α → Int) (l : List α) : Prop := ∀ i (h : i + 1 < l.length), f l[i] < f l[i + 1]
def ivW (m : Wo) : Prop := m.writers.length ≤ 4 ∧ ascBy Wt.epoch m.writers ∧ ∀ x ∈ m.writers, (1 ≤ x.epoch ∧ x.epoch ≤ (m.reg.eras.length : Int)) ∧ wrP m.cfg.1 m.cfg.2 x
def ivM (m : Wo) : Prop := m.mends.length ≤ 1 ∧ ∀ x ∈ m.mends, x.bye = (m.reg.eras.length : Int) ∧ x.epoch = (firstO m.reg.eras : Int) ∧ mnP m.cfg.1 m.cfg.2 x
def ivX (m : Wo) : Prop := m.sent.length ≤ 120 ∧ ascBy Se.pl m.sent ∧ ∀ x ∈ m.sent, plIn m.reg.eras.length x.pl ∧ x.data.size ≤ 40
theorem nodes_in {ds : List Int} {cop : Int} {xs : List Int} (h : nodesP ds cop xs) : ∀ x ∈ xs, 0 ≤ x ∧ x < (ds.length : Int) := fun x hx => by
 obtain ⟨i, hi, rfl⟩ := List.getElem_of_mem hx
 have := h.2 i hi
 omega
theorem woP_iff (m : Wo) : woP m ↔ cfgP m.cfg.1 m.cfg.2 ∧ ivS m ∧ ivL m ∧ ivT m ∧ regP m.cfg.1 m.cfg.2 m.reg ∧ ivW m ∧ ivM m ∧ reaP m ∧ ivX m := by
 constructor
 ·rintro ⟨⟨c, sl, nd, ho, st⟩, ⟨rg, w4, m1, wr, mn⟩, re, s1, sn⟩
  refine ⟨c, ⟨sl, fun x hx => ?_⟩, ⟨nd, fun x hx => ?_⟩, ?_, rg, ⟨w4, fun i hi => ?_, fun x hx => ?_⟩, ⟨m1, fun x hx => ?_⟩, re, s1, fun i hi => ?_, fun x hx => ?_⟩
  ·obtain ⟨i, hi, rfl⟩ := List.getElem_of_mem hx
   exact (st i hi).1
  ·obtain ⟨q0, q1⟩ := nodes_in nd x hx
   have hi : x.toNat < m.stores.length := by omega
   rw [List.getD_eq_getElem?_getD, List.getElem?_eq_getElem hi]
   exact (st x.toNat hi).2 (by rw [Int.toNat_of_nonneg q0]; exact hx)
  ·by_cases h : holdsP m.cfg.1 m.cfg.2 m.lost
   ·exact .inl (ho h)
   ·exact .inr h
  ·exact (wr (i + 1) hi).2.2 (by omega)
  ·obtain ⟨i, hi, rfl⟩ := List.getElem_of_mem hx
   exact ⟨⟨(wr i hi).1.2.1.1, (wr i hi).2.1⟩, (wr i hi).1⟩
  ·obtain ⟨i, hi, rfl⟩ := List.getElem_of_mem hx
   exact ⟨(mn i hi).2.1, (mn i hi).2.2, (mn i hi).1⟩
  ·exact (sn (i + 1) hi).2.2 (by omega)
  ·obtain ⟨i, hi, rfl⟩ := List.getElem_of_mem hx
   exact ⟨(sn i hi).1, (sn i hi).2.1⟩
 ·rintro ⟨c, ⟨sl, st⟩, ⟨nd, lz⟩, tn, rg, ⟨w4, wa, wr⟩, ⟨m1, mn⟩, re, s1, sa, sn⟩
  refine ⟨⟨c, sl, nd, fun h => ?_, fun i hi => ⟨st _ (List.getElem_mem hi), fun hl => ?_⟩⟩, ⟨rg, w4, m1, fun i hi => ⟨(wr _ (List.getElem_mem hi)).2, (wr _ (List.getElem_mem hi)).1.2, fun h0 => ?_⟩, fun i hi => ?_⟩, re, s1, fun i hi => ⟨(sn _ (List.getElem_mem hi)).1, (sn _ (List.getElem_mem hi)).2, fun h0 => ?_⟩⟩
  ·exact tn.resolve_right fun hn => hn h
  ·have := lz _ hl
   rw [List.getD_eq_getElem?_getD, Int.toNat_natCast, List.getElem?_eq_getElem hi] at this
   exact this
  ·obtain ⟨k, rfl⟩ : ∃ k, i = k + 1 := ⟨i - 1, by omega⟩
   exact wa k hi
  ·have := mn _ (List.getElem_mem hi)
   exact ⟨this.2.2, this.1, this.2.1⟩
  ·obtain ⟨k, rfl⟩ : ∃ k, i = k + 1 := ⟨i - 1, by omega⟩
   exact sa k hi
set_option maxHeartbeats 4000000 in
theorem szWorld_ (v : Value) (m : Wo) (left : Int) (l0 : 0 ≤ left) (l1 : left ≤ 1048576) (ht : txtWo m) (w : World) (h : RdWorld v m w) :
  Calls Tryz.prog 6 #[v, .int .i64 left] w fun e w' => e = .returned (.int .i64 (lft left (sizWorld m))) ∧ Below w.heap.size w w' := by
 have hb0 : ∀ o, Below w.heap.size w (w.alloc o) := fun o => (Below.refl _ _).alloc (Nat.le_refl _) o
 obtain ⟨dv, sv, lv, ev, wv, nv, rv, tv, rfl, h0, h1, h2, h3, h4, h5, h6, h7⟩ := h
 have C0 := dH fun (q : Int) (q0 : 0 ≤ q) (q1 : q ≤ 1048576) W (hb : Below w.heap.size w W) => szConfig_ (.agg #[dv, .int .i64 m.cfg.2]) m.cfg q q0 q1 W ⟨_, rfl, h0.below hb⟩
 have C1 := dH fun (q : Int) (q0 : 0 ≤ q) (q1 : q ≤ 1048576) W (hb : Below w.heap.size w W) => szStoreS_ (sv) m.stores q q0 q1 ht.1 W (h1.below hb)
 have C2 := dH fun (q : Int) (q0 : 0 ≤ q) (q1 : q ≤ 1048576) W (hb : Below w.heap.size w W) => szIntS_w (lv) m.lost q q0 q1 W (h2.below hb)
 have C3 := dH fun (q : Int) (q0 : 0 ≤ q) (q1 : q ≤ 1048576) W (hb : Below w.heap.size w W) => szRegister_ (.agg #[ev, .int .i64 m.reg.trim]) m.reg q q0 q1 W ⟨_, rfl, RdK.below h3 hb⟩
 have C4 := dH fun (q : Int) (q0 : 0 ≤ q) (q1 : q ≤ 1048576) W (hb : Below w.heap.size w W) => szWriterS_ (wv) m.writers q q0 q1 ht.2.1 W (h4.below hb)
 have C5 := dH fun (q : Int) (q0 : 0 ≤ q) (q1 : q ≤ 1048576) W (hb : Below w.heap.size w W) => szMendS_ (nv) m.mends q q0 q1 ht.2.2.1 W (h5.below hb)
 have C6 := dH fun (q : Int) (q0 : 0 ≤ q) (q1 : q ≤ 1048576) W (hb : Below w.heap.size w W) => szReaderS_ (rv) m.readers q q0 q1 ht.2.2.2.1 W (h6.below hb)
 have C7 := dH fun (q : Int) (q0 : 0 ≤ q) (q1 : q ≤ 1048576) W (hb : Below w.heap.size w W) => szSentS_ (tv) m.sent q q0 q1 ht.2.2.2.2 W (h7.below hb)
 obtain ⟨zd, da, dc, rfl, -, -⟩ := h0
 obtain ⟨sa, sc, rfl, zs⟩ := formStoreS h1
 obtain ⟨zl, la, lc, rfl, -, -⟩ := h2
 obtain ⟨ea, ec, rfl, ze⟩ := formK h3
 obtain ⟨wa, wc, rfl, zw⟩ := formD h4
 obtain ⟨na, nc, rfl, zn⟩ := formD h5
 obtain ⟨ra, rc, rfl, zr⟩ := formD h6
 obtain ⟨ta, tc, rfl, zt⟩ := formSentS h7
 have e0 : sizWorld m = sizConfig m.cfg + (sizStoreS m.stores + (sizIntS m.lost + (sizRegister m.reg + (sizWriterS m.writers + (sizMendS m.mends + (sizReaderS m.readers + (sizSentS m.sent))))))) := rfl
 rw [e0]
 clear e0 ht h1 h3 h4 h5 h6 h7
 generalize sizConfig m.cfg = n0 at *
 generalize sizStoreS m.stores = n1 at *
 generalize sizIntS m.lost = n2 at *
 generalize sizRegister m.reg = n3 at *
 generalize sizWriterS m.writers = n4 at *
 generalize sizMendS m.mends = n5 at *
 generalize sizReaderS m.readers = n6 at *
 generalize sizSentS m.sent = n7 at *
 generalize m.cfg.1.length = gd at *
 generalize m.stores.length = gs at *
 generalize m.lost.length = gl at *
 generalize m.reg.eras.length = ge at *
 generalize m.writers.length = gw at *
 generalize m.mends.length = gn at *
 generalize m.readers.length = gr at *
 generalize m.sent.length = gt at *
 generalize m.cfg.2 = f1 at *
 generalize m.reg.trim = f5 at *
 generalize m.torn = f10 at *
 have T0 := Bx.new w [.slice da gd dc, .int .i64 f1, .slice sa gs sc, .slice la gl lc, .slice ea ge ec, .int .i64 f5, .slice wa gw wc, .slice na gn nc, .slice ra gr rc, .slice ta gt tc, .bool f10] 34
 have B0 := hb0 (.cells #[.slice da gd dc, .int .i64 f1, .slice sa gs sc, .slice la gl lc, .slice ea ge ec, .int .i64 f5, .slice wa gw wc, .slice na gn nc, .slice ra gr rc, .slice ta gt tc, .bool f10] 34)
 have LN : Hid (left < ((n0 + (n1 + (n2 + (n3 + (n4 + (n5 + (n6 + (n7))))))) : Nat) : Int) → lft left (n0 + (n1 + (n2 + (n3 + (n4 + (n5 + (n6 + (n7)))))))) = -1) := lft_no
 have LY : Hid (¬ left < ((n0 + (n1 + (n2 + (n3 + (n4 + (n5 + (n6 + (n7))))))) : Nat) : Int) → lft left (n0 + (n1 + (n2 + (n3 + (n4 + (n5 + (n6 + (n7)))))))) = left - ((n0 + (n1 + (n2 + (n3 + (n4 + (n5 + (n6 + (n7))))))) : Nat) : Int)) := lft_yes
 generalize lft left (n0 + (n1 + (n2 + (n3 + (n4 + (n5 + (n6 + (n7)))))))) = M at *
 go_enter Tryz.func6, Tryz.ntmps6
 go_wp2_with fail
 generalize w.alloc (.cells #[.slice da gd dc, .int .i64 f1, .slice sa gs sc, .slice la gl lc, .slice ea ge ec, .int .i64 f5, .slice wa gw wc, .slice na gn nc, .slice ra gr rc, .slice ta gt tc, .bool f10] 34) = w0 at *
 refine (dU C0 left l0 l1 _ B0).mono ?_
 rintro r w1 ⟨rfl, b1⟩
 have B1 := bT B0 b1
 have T1 := T0.below b1
 clear b1 C0 T0 B0
 by_cases d0 : left < (n0 : Int)
 ·have eM := dU LN (by omega)
  subst eM
  rw [lft_no d0]
  clear C1 C2 C3 C4 C5 C6 C7 T1 LN LY
  go_wp2
  go_ret
  exact ⟨rfl, B1⟩
 rw [lft_yes d0]
 obtain ⟨q0, hq0⟩ : ∃ x : Int, x = left - (n0 : Int) := ⟨_, rfl⟩
 rw [← hq0]
 have y0 : 0 ≤ q0 := by omega
 have x0 : q0 ≤ 1048576 := by omega
 have u0 : ¬ q0 < 0 := by omega
 have E0 := dH hq0
 clear d0 hq0
 have k2 := T1 2 _ rfl
 go_wp2_with fail
 refine (dU C1 q0 y0 x0 _ B1).mono ?_
 rintro r w2 ⟨rfl, b2⟩
 have B2 := bT B1 b2
 have T2 := T1.below b2
 clear k2
 clear b2 C1 T1 B1
 by_cases d1 : q0 < (n1 : Int)
 ·have eM := dU LN (by have := dU E0; omega)
  subst eM
  rw [lft_no d1]
  clear C2 C3 C4 C5 C6 C7 T2 LN LY E0
  go_wp2
  go_ret
  exact ⟨rfl, B2⟩
 rw [lft_yes d1]
 obtain ⟨q1, hq1⟩ : ∃ x : Int, x = q0 - (n1 : Int) := ⟨_, rfl⟩
 rw [← hq1]
 have y1 : 0 ≤ q1 := by omega
 have x1 : q1 ≤ 1048576 := by omega
 have u1 : ¬ q1 < 0 := by omega
 have E1 := dH hq1
 clear d1 hq1
 have k3 := T2 3 _ rfl
 go_wp2_with fail
 refine (dU C2 q1 y1 x1 _ B2).mono ?_
 rintro r w3 ⟨rfl, b3⟩
 have B3 := bT B2 b3
 have T3 := T2.below b3
 clear k3
 clear b3 C2 T2 B2
 by_cases d2 : q1 < (n2 : Int)
 ·have eM := dU LN (by have := dU E0; have := dU E1; omega)
  subst eM
  rw [lft_no d2]
  clear C3 C4 C5 C6 C7 T3 LN LY E0 E1
  go_wp2
  go_ret
  exact ⟨rfl, B3⟩
 rw [lft_yes d2]
 obtain ⟨q2, hq2⟩ : ∃ x : Int, x = q1 - (n2 : Int) := ⟨_, rfl⟩
 rw [← hq2]
 have y2 : 0 ≤ q2 := by omega
 have x2 : q2 ≤ 1048576 := by omega
 have u2 : ¬ q2 < 0 := by omega
 have E2 := dH hq2
 clear d2 hq2
 have k4 := T3 4 _ rfl
 have k5 := T3 5 _ rfl
 go_wp2_with fail
 refine (dU C3 q2 y2 x2 _ B3).mono ?_
 rintro r w4 ⟨rfl, b4⟩
 have B4 := bT B3 b4
 have T4 := T3.below b4
 clear k4
 clear k5
 clear b4 C3 T3 B3
 by_cases d3 : q2 < (n3 : Int)
 ·have eM := dU LN (by have := dU E0; have := dU E1; have := dU E2; omega)
  subst eM
  rw [lft_no d3]
  clear C4 C5 C6 C7 T4 LN LY E0 E1 E2
  go_wp2
  go_ret
  exact ⟨rfl, B4⟩
 rw [lft_yes d3]
 obtain ⟨q3, hq3⟩ : ∃ x : Int, x = q2 - (n3 : Int) := ⟨_, rfl⟩
 rw [← hq3]
 have y3 : 0 ≤ q3 := by omega
 have x3 : q3 ≤ 1048576 := by omega
 have u3 : ¬ q3 < 0 := by omega
 have E3 := dH hq3
 clear d3 hq3
 have k6 := T4 6 _ rfl
 go_wp2_with fail
 refine (dU C4 q3 y3 x3 _ B4).mono ?_
 rintro r w5 ⟨rfl, b5⟩
 have B5 := bT B4 b5
 have T5 := T4.below b5
 clear k6
 clear b5 C4 T4 B4
 by_cases d4 : q3 < (n4 : Int)
 ·have eM := dU LN (by have := dU E0; have := dU E1; have := dU E2; have := dU E3; omega)
  subst eM
  rw [lft_no d4]
  clear C5 C6 C7 T5 LN LY E0 E1 E2 E3
  go_wp2
  go_ret
  exact ⟨rfl, B5⟩
 rw [lft_yes d4]
 obtain ⟨q4, hq4⟩ : ∃ x : Int, x = q3 - (n4 : Int) := ⟨_, rfl⟩
 rw [← hq4]
 have y4 : 0 ≤ q4 := by omega
 have x4 : q4 ≤ 1048576 := by omega
 have u4 : ¬ q4 < 0 := by omega
 have E4 := dH hq4
 clear d4 hq4
 have k7 := T5 7 _ rfl
 go_wp2_with fail
 refine (dU C5 q4 y4 x4 _ B5).mono ?_
 rintro r w6 ⟨rfl, b6⟩
 have B6 := bT B5 b6
 have T6 := T5.below b6
 clear k7
 clear b6 C5 T5 B5
 by_cases d5 : q4 < (n5 : Int)
 ·have eM := dU LN (by have := dU E0; have := dU E1; have := dU E2; have := dU E3; have := dU E4; omega)
  subst eM
  rw [lft_no d5]
  clear C6 C7 T6 LN LY E0 E1 E2 E3 E4
  go_wp2
  go_ret
  exact ⟨rfl, B6⟩
 rw [lft_yes d5]
 obtain ⟨q5, hq5⟩ : ∃ x : Int, x = q4 - (n5 : Int) := ⟨_, rfl⟩
 rw [← hq5]
 have y5 : 0 ≤ q5 := by omega
 have x5 : q5 ≤ 1048576 := by omega
 have u5 : ¬ q5 < 0 := by omega
 have E5 := dH hq5
 clear d5 hq5
 have k8 := T6 8 _ rfl
 go_wp2_with fail
 refine (dU C6 q5 y5 x5 _ B6).mono ?_
 rintro r w7 ⟨rfl, b7⟩
 have B7 := bT B6 b7
 have T7 := T6.below b7
 clear k8
 clear b7 C6 T6 B6
 by_cases d6 : q5 < (n6 : Int)
 ·have eM := dU LN (by have := dU E0; have := dU E1; have := dU E2; have := dU E3; have := dU E4; have := dU E5; omega)
  subst eM
  rw [lft_no d6]
  clear C7 T7 LN LY E0 E1 E2 E3 E4 E5
  go_wp2
  go_ret
  exact ⟨rfl, B7⟩
 rw [lft_yes d6]
 obtain ⟨q6, hq6⟩ : ∃ x : Int, x = q5 - (n6 : Int) := ⟨_, rfl⟩
 rw [← hq6]
 have y6 : 0 ≤ q6 := by omega
 have x6 : q6 ≤ 1048576 := by omega
 have u6 : ¬ q6 < 0 := by omega
 have E6 := dH hq6
 clear d6 hq6
 have k9 := T7 9 _ rfl
 go_wp2_with fail
 refine (dU C7 q6 y6 x6 _ B7).mono ?_
 rintro r w8 ⟨rfl, b8⟩
 have B8 := bT B7 b8
 have T8 := T7.below b8
 clear k9
 clear b8 C7 T7 B7
 by_cases d7 : q6 < (n7 : Int)
 ·have eM := dU LN (by have := dU E0; have := dU E1; have := dU E2; have := dU E3; have := dU E4; have := dU E5; have := dU E6; omega)
  subst eM
  rw [lft_no d7]
  clear  T8 LN LY E0 E1 E2 E3 E4 E5 E6
  go_wp2
  go_ret
  exact ⟨rfl, B8⟩
 rw [lft_yes d7]
 obtain ⟨q7, hq7⟩ : ∃ x : Int, x = q6 - (n7 : Int) := ⟨_, rfl⟩
 rw [← hq7]
 have y7 : 0 ≤ q7 := by omega
 have x7 : q7 ≤ 1048576 := by omega
 have u7 : ¬ q7 < 0 := by omega
 have E7 := dH hq7
 clear d7 hq7
 have eM : M = q7 := by have := dU E0; have := dU E1; have := dU E2; have := dU E3; have := dU E4; have := dU E5; have := dU E6; have := dU E7; rw [dU LY (by omega)]; omega
 subst eM
 clear E0 E1 E2 E3 E4 E5 E6 E7 LN LY T8
 go_wp2
 go_ret
 exact ⟨rfl, B8⟩
end Go.Proofs.YtkiclbbialadlaaGreat
