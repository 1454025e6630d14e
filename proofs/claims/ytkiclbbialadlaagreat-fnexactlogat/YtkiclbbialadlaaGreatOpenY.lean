/- Worlds among a law's arguments (printed by tools/mkopeny.py). -/
import Derived.Test.YtkiclbbialadlaaGreatGbO
import Derived.Test.YtkiclbbialadlaaGreatGz18
import Derived.Test.YtkiclbbialadlaaGreatGz12
namespace Go.Proofs.YtkiclbbialadlaaGreat
open Go.ChangeShapes Go.WideShapes Go.ChangeAt Go.RowKit
set_option linter.unusedVariables false
set_option linter.unusedSimpArgs false
set_option maxRecDepth 100000
variable {H : Type} {enc : TypeId × Value → H} {W : World} {r : Reach} {b0 base : Nat} {held : Bool} {v : Value} {d : DataW H} {p : List MemPlace}

theorem config_cells {n : Nat} {cs : List Value} {x : DataW H × List MemPlace} (h : DataW.trod enc Tryz.prog W base (fun _ => true) held n 24 cs = some x) : ∃ sv m, cs = [sv, .int .i64 m.2] ∧ Ns W sv m.1 ∧ okConfig m := by
 obtain ⟨xs, n', _, rfl, hl, hlen, hf⟩ := DataW.trod_struct Tryz.underlying24 h
 rw [show Tryz.prog.cellsOf 24 = 2 from by kernel_rfl] at hl
 match cs, hl, xs, hlen with
 | [c0, c1], _, [y0, y1], _ =>
  have h0 : DataW.trod enc Tryz.prog W base (fun _ => true) held n' 22 [c0] = some y0 := by
   have q : DataW.trod enc Tryz.prog W base (fun _ => true) held n' 22 (([c0, c1].drop 0).take (Tryz.prog.cellsOf 22)) = some y0 := hf 0 _ rfl
   rw [show Tryz.prog.cellsOf 22 = 1 from by kernel_rfl] at q
   exact q
  have h1 : DataW.trod enc Tryz.prog W base (fun _ => true) held n' 3 [c1] = some y1 := by
   have q : DataW.trod enc Tryz.prog W base (fun _ => true) held n' 3 (([c0, c1].drop 1).take (Tryz.prog.cellsOf 3)) = some y1 := hf 1 _ rfl
   rw [show Tryz.prog.cellsOf 3 = 1 from by kernel_rfl] at q
   exact q
  obtain ⟨v0, n0, e0, k0, w0⟩ := ints_read h0
  obtain ⟨n1, e1, -, w1⟩ := DataW.trod_int Tryz.underlying3 h1
  simp at e0 e1
  subst e0
  subst e1
  exact ⟨_, (n0, n1), rfl, k0, w0, (bounds_i64 w1).1, (bounds_i64 w1).2⟩
theorem register_cells {n : Nat} {cs : List Value} {x : DataW H × List MemPlace} (h : DataW.trod enc Tryz.prog W base (fun _ => true) held n 28 cs = some x) : ∃ sv m, cs = [sv, .int .i64 m.trim] ∧ RdEraS sv m.eras W ∧ okRegister m := by
 obtain ⟨xs, n', _, rfl, hl, hlen, hf⟩ := DataW.trod_struct Tryz.underlying28 h
 rw [show Tryz.prog.cellsOf 28 = 2 from by kernel_rfl] at hl
 match cs, hl, xs, hlen with
 | [c0, c1], _, [y0, y1], _ =>
  have h0 : DataW.trod enc Tryz.prog W base (fun _ => true) held n' 26 [c0] = some y0 := by
   have q : DataW.trod enc Tryz.prog W base (fun _ => true) held n' 26 (([c0, c1].drop 0).take (Tryz.prog.cellsOf 26)) = some y0 := hf 0 _ rfl
   rw [show Tryz.prog.cellsOf 26 = 1 from by kernel_rfl] at q
   exact q
  have h1 : DataW.trod enc Tryz.prog W base (fun _ => true) held n' 3 [c1] = some y1 := by
   have q : DataW.trod enc Tryz.prog W base (fun _ => true) held n' 3 (([c0, c1].drop 1).take (Tryz.prog.cellsOf 3)) = some y1 := hf 1 _ rfl
   rw [show Tryz.prog.cellsOf 3 = 1 from by kernel_rfl] at q
   exact q
  obtain ⟨v0, n0, e0, k0, w0⟩ := eras_read h0
  obtain ⟨n1, e1, -, w1⟩ := DataW.trod_int Tryz.underlying3 h1
  simp at e0 e1
  subst e0
  subst e1
  exact ⟨_, ⟨n0, n1⟩, rfl, k0, w0, (bounds_i64 w1).1, (bounds_i64 w1).2⟩
theorem writer_cells {n : Nat} {cs : List Value} {x : DataW H × List MemPlace} (h : DataW.trod enc Tryz.prog W base (fun _ => true) held n 111 cs = some x) : ∃ e : Pd 2 Wt, cs = e.c ∧ RdWriter e.val e.m W ∧ okWriter e.m := by
 obtain ⟨xs, n', _, rfl, hl, hlen, hf⟩ := DataW.trod_struct Tryz.underlying111 h
 rw [show Tryz.prog.cellsOf 111 = 2 from by kernel_rfl] at hl
 match cs, hl, xs, hlen with
 | [c0, c1], _, [y0, y1], _ =>
  have h0 : DataW.trod enc Tryz.prog W base (fun _ => true) held n' 3 [c0] = some y0 := by
   have q : DataW.trod enc Tryz.prog W base (fun _ => true) held n' 3 (([c0, c1].drop 0).take (Tryz.prog.cellsOf 3)) = some y0 := hf 0 _ rfl
   rw [show Tryz.prog.cellsOf 3 = 1 from by kernel_rfl] at q
   exact q
  have h1 : DataW.trod enc Tryz.prog W base (fun _ => true) held n' 109 [c1] = some y1 := by
   have q : DataW.trod enc Tryz.prog W base (fun _ => true) held n' 109 (([c0, c1].drop 1).take (Tryz.prog.cellsOf 109)) = some y1 := hf 1 _ rfl
   rw [show Tryz.prog.cellsOf 109 = 1 from by kernel_rfl] at q
   exact q
  obtain ⟨n0, e0, -, w0⟩ := DataW.trod_int Tryz.underlying3 h0
  obtain ⟨v1, n1, e1, k1, w1⟩ := words_read h1
  simp at e0 e1
  subst e0
  subst e1
  exact ⟨⟨[_, _], rfl, ⟨n0, n1⟩⟩, rfl, ⟨_, rfl, k1⟩, w1, (bounds_i64 w0).1, (bounds_i64 w0).2⟩
theorem mend_cells {n : Nat} {cs : List Value} {x : DataW H × List MemPlace} (h : DataW.trod enc Tryz.prog W base (fun _ => true) held n 115 cs = some x) : ∃ e : Pd 6 Mn, cs = e.c ∧ RdMend e.val e.m W ∧ okMend e.m := by
 obtain ⟨xs, n', _, rfl, hl, hlen, hf⟩ := DataW.trod_struct Tryz.underlying115 h
 rw [show Tryz.prog.cellsOf 115 = 6 from by kernel_rfl] at hl
 match cs, hl, xs, hlen with
 | [c0, c1, c2, c3, c4, c5], _, [y0, y1, y2, y3, y4, y5], _ =>
  have h0 : DataW.trod enc Tryz.prog W base (fun _ => true) held n' 3 [c0] = some y0 := by
   have q : DataW.trod enc Tryz.prog W base (fun _ => true) held n' 3 (([c0, c1, c2, c3, c4, c5].drop 0).take (Tryz.prog.cellsOf 3)) = some y0 := hf 0 _ rfl
   rw [show Tryz.prog.cellsOf 3 = 1 from by kernel_rfl] at q
   exact q
  have h1 : DataW.trod enc Tryz.prog W base (fun _ => true) held n' 3 [c1] = some y1 := by
   have q : DataW.trod enc Tryz.prog W base (fun _ => true) held n' 3 (([c0, c1, c2, c3, c4, c5].drop 1).take (Tryz.prog.cellsOf 3)) = some y1 := hf 1 _ rfl
   rw [show Tryz.prog.cellsOf 3 = 1 from by kernel_rfl] at q
   exact q
  have h2 : DataW.trod enc Tryz.prog W base (fun _ => true) held n' 22 [c2] = some y2 := by
   have q : DataW.trod enc Tryz.prog W base (fun _ => true) held n' 22 (([c0, c1, c2, c3, c4, c5].drop 2).take (Tryz.prog.cellsOf 22)) = some y2 := hf 2 _ rfl
   rw [show Tryz.prog.cellsOf 22 = 1 from by kernel_rfl] at q
   exact q
  have h3 : DataW.trod enc Tryz.prog W base (fun _ => true) held n' 104 [c3] = some y3 := by
   have q : DataW.trod enc Tryz.prog W base (fun _ => true) held n' 104 (([c0, c1, c2, c3, c4, c5].drop 3).take (Tryz.prog.cellsOf 104)) = some y3 := hf 3 _ rfl
   rw [show Tryz.prog.cellsOf 104 = 1 from by kernel_rfl] at q
   exact q
  have h4 : DataW.trod enc Tryz.prog W base (fun _ => true) held n' 4 [c4] = some y4 := by
   have q : DataW.trod enc Tryz.prog W base (fun _ => true) held n' 4 (([c0, c1, c2, c3, c4, c5].drop 4).take (Tryz.prog.cellsOf 4)) = some y4 := hf 4 _ rfl
   rw [show Tryz.prog.cellsOf 4 = 1 from by kernel_rfl] at q
   exact q
  have h5 : DataW.trod enc Tryz.prog W base (fun _ => true) held n' 113 [c5] = some y5 := by
   have q : DataW.trod enc Tryz.prog W base (fun _ => true) held n' 113 (([c0, c1, c2, c3, c4, c5].drop 5).take (Tryz.prog.cellsOf 113)) = some y5 := hf 5 _ rfl
   rw [show Tryz.prog.cellsOf 113 = 1 from by kernel_rfl] at q
   exact q
  obtain ⟨n0, e0, -, w0⟩ := DataW.trod_int Tryz.underlying3 h0
  obtain ⟨n1, e1, -, w1⟩ := DataW.trod_int Tryz.underlying3 h1
  obtain ⟨v2, n2, e2, k2, w2⟩ := ints_read h2
  obtain ⟨v3, n3, e3, k3, w3⟩ := ents_read h3
  obtain ⟨n4, e4, -⟩ := DataW.trod_bool Tryz.underlying4 h4
  obtain ⟨v5, n5, e5, k5, w5⟩ := lists_read h5
  simp at e0 e1 e2 e3 e4 e5
  subst e0
  subst e1
  subst e2
  subst e3
  subst e4
  subst e5
  exact ⟨⟨[_, _, _, _, _, _], rfl, ⟨n0, n1, n2, n3, n4, n5⟩⟩, rfl, ⟨_, _, _, rfl, k2, k3, k5⟩, bounds_i64 w0, bounds_i64 w1, w2, w3, w5⟩
theorem reader_cells {n : Nat} {cs : List Value} {x : DataW H × List MemPlace} (h : DataW.trod enc Tryz.prog W base (fun _ => true) held n 119 cs = some x) : ∃ e : Pd 3 Rr, cs = e.c ∧ RdReader e.val e.m W ∧ okReader e.m := by
 obtain ⟨xs, n', _, rfl, hl, hlen, hf⟩ := DataW.trod_struct Tryz.underlying119 h
 rw [show Tryz.prog.cellsOf 119 = 3 from by kernel_rfl] at hl
 match cs, hl, xs, hlen with
 | [c0, c1, c2], _, [y0, y1, y2], _ =>
  have h0 : DataW.trod enc Tryz.prog W base (fun _ => true) held n' 3 [c0] = some y0 := by
   have q : DataW.trod enc Tryz.prog W base (fun _ => true) held n' 3 (([c0, c1, c2].drop 0).take (Tryz.prog.cellsOf 3)) = some y0 := hf 0 _ rfl
   rw [show Tryz.prog.cellsOf 3 = 1 from by kernel_rfl] at q
   exact q
  have h1 : DataW.trod enc Tryz.prog W base (fun _ => true) held n' 3 [c1] = some y1 := by
   have q : DataW.trod enc Tryz.prog W base (fun _ => true) held n' 3 (([c0, c1, c2].drop 1).take (Tryz.prog.cellsOf 3)) = some y1 := hf 1 _ rfl
   rw [show Tryz.prog.cellsOf 3 = 1 from by kernel_rfl] at q
   exact q
  have h2 : DataW.trod enc Tryz.prog W base (fun _ => true) held n' 117 [c2] = some y2 := by
   have q : DataW.trod enc Tryz.prog W base (fun _ => true) held n' 117 (([c0, c1, c2].drop 2).take (Tryz.prog.cellsOf 117)) = some y2 := hf 2 _ rfl
   rw [show Tryz.prog.cellsOf 117 = 1 from by kernel_rfl] at q
   exact q
  obtain ⟨n0, e0, -, w0⟩ := DataW.trod_int Tryz.underlying3 h0
  obtain ⟨n1, e1, -, w1⟩ := DataW.trod_int Tryz.underlying3 h1
  obtain ⟨v2, n2, e2, k2, w2⟩ := evs_read h2
  simp at e0 e1 e2
  subst e0
  subst e1
  subst e2
  exact ⟨⟨[_, _, _], rfl, ⟨n0, n1, n2⟩⟩, rfl, ⟨_, rfl, k2⟩, bounds_i64 w0, bounds_i64 w1, w2⟩
def okSent (e : Se) : Prop := okInt e.pl ∧ e.data.size ≤ 9223372036854775807
theorem sent_cells {n : Nat} {cs : List Value} {x : DataW H × List MemPlace} (h : DataW.trod enc Tryz.prog W base (fun _ => true) held n 121 cs = some x) : ∃ e : Se, cs = e.cl ∧ okSent e := by
 obtain ⟨xs, n', _, rfl, hl, hlen, hf⟩ := DataW.trod_struct Tryz.underlying121 h
 rw [show Tryz.prog.cellsOf 121 = 3 from by kernel_rfl] at hl
 match cs, hl, xs, hlen with
 | [c0, c1, c2], _, [y0, y1, y2], _ =>
  have h0 : DataW.trod enc Tryz.prog W base (fun _ => true) held n' 3 [c0] = some y0 := by
   have q : DataW.trod enc Tryz.prog W base (fun _ => true) held n' 3 (([c0, c1, c2].drop 0).take (Tryz.prog.cellsOf 3)) = some y0 := hf 0 _ rfl
   rw [show Tryz.prog.cellsOf 3 = 1 from by kernel_rfl] at q
   exact q
  have h1 : DataW.trod enc Tryz.prog W base (fun _ => true) held n' 9 [c1] = some y1 := by
   have q : DataW.trod enc Tryz.prog W base (fun _ => true) held n' 9 (([c0, c1, c2].drop 1).take (Tryz.prog.cellsOf 9)) = some y1 := hf 1 _ rfl
   rw [show Tryz.prog.cellsOf 9 = 1 from by kernel_rfl] at q
   exact q
  have h2 : DataW.trod enc Tryz.prog W base (fun _ => true) held n' 4 [c2] = some y2 := by
   have q : DataW.trod enc Tryz.prog W base (fun _ => true) held n' 4 (([c0, c1, c2].drop 2).take (Tryz.prog.cellsOf 4)) = some y2 := hf 2 _ rfl
   rw [show Tryz.prog.cellsOf 4 = 1 from by kernel_rfl] at q
   exact q
  obtain ⟨n0, e0, -, w0⟩ := DataW.trod_int Tryz.underlying3 h0
  obtain ⟨n1, e1, -, w1⟩ := DataW.trod_string Tryz.underlying9 h1
  obtain ⟨n2, e2, -⟩ := DataW.trod_bool Tryz.underlying4 h2
  simp at e0 e1 e2
  subst e0
  subst e1
  subst e2
  exact ⟨⟨n0, n1, n2⟩, rfl, bounds_i64 w0, w1⟩
theorem writers_read {fuel : Nat} {cs : List Value} {x : DataW H × List MemPlace} (h : DataW.trod enc Tryz.prog W base (fun _ => true) held fuel 29 cs = some x) : ∃ sv ms, cs = [sv] ∧ RdWriterS sv ms W ∧ ∀ m ∈ ms, okWriter m := by
 obtain ⟨sv, rs, e, h1, h2⟩ := rows_read (sz := 2) (cl := Pd.c) (good := fun e : Pd 2 Wt => RdWriter e.val e.m W ∧ okWriter e.m) Tryz.underlying29 (by kernel_rfl) (by decide) Pd.len (fun n cs x hx => writer_cells hx) h
 refine ⟨sv, rs.map Pd.m, e, ⟨rs, rfl, h1, fun p hp => (h2 p hp).1⟩, fun e he => ?_⟩
 obtain ⟨p, hp, rfl⟩ := List.mem_map.1 he
 exact (h2 p hp).2
theorem mends_read {fuel : Nat} {cs : List Value} {x : DataW H × List MemPlace} (h : DataW.trod enc Tryz.prog W base (fun _ => true) held fuel 30 cs = some x) : ∃ sv ms, cs = [sv] ∧ RdMendS sv ms W ∧ ∀ m ∈ ms, okMend m := by
 obtain ⟨sv, rs, e, h1, h2⟩ := rows_read (sz := 6) (cl := Pd.c) (good := fun e : Pd 6 Mn => RdMend e.val e.m W ∧ okMend e.m) Tryz.underlying30 (by kernel_rfl) (by decide) Pd.len (fun n cs x hx => mend_cells hx) h
 refine ⟨sv, rs.map Pd.m, e, ⟨rs, rfl, h1, fun p hp => (h2 p hp).1⟩, fun e he => ?_⟩
 obtain ⟨p, hp, rfl⟩ := List.mem_map.1 he
 exact (h2 p hp).2
theorem readers_read {fuel : Nat} {cs : List Value} {x : DataW H × List MemPlace} (h : DataW.trod enc Tryz.prog W base (fun _ => true) held fuel 31 cs = some x) : ∃ sv ms, cs = [sv] ∧ RdReaderS sv ms W ∧ ∀ m ∈ ms, okReader m := by
 obtain ⟨sv, rs, e, h1, h2⟩ := rows_read (sz := 3) (cl := Pd.c) (good := fun e : Pd 3 Rr => RdReader e.val e.m W ∧ okReader e.m) Tryz.underlying31 (by kernel_rfl) (by decide) Pd.len (fun n cs x hx => reader_cells hx) h
 refine ⟨sv, rs.map Pd.m, e, ⟨rs, rfl, h1, fun p hp => (h2 p hp).1⟩, fun e he => ?_⟩
 obtain ⟨p, hp, rfl⟩ := List.mem_map.1 he
 exact (h2 p hp).2
theorem sents_read {fuel : Nat} {cs : List Value} {x : DataW H × List MemPlace} (h : DataW.trod enc Tryz.prog W base (fun _ => true) held fuel 32 cs = some x) : ∃ sv ms, cs = [sv] ∧ RdSentS sv ms W ∧ ∀ m ∈ ms, okSent m :=
 rows_read (sz := 3) (cl := Se.cl) (good := okSent) Tryz.underlying32 (by kernel_rfl) (by decide) Se.cl_len (fun n cs x hx => sent_cells hx) h
theorem stores_read {fuel : Nat} {cs : List Value} {x : DataW H × List MemPlace} (h : DataW.trod enc Tryz.prog W base (fun _ => true) held fuel 25 cs = some x) : ∃ sv ms, cs = [sv] ∧ RdStoreS sv ms W ∧ okStoreS ms := by
 obtain ⟨sv, rs, e, h1, h2⟩ := rows_read (sz := 3) (cl := psCl) (good := fun e => RdStore (psVal e) e.m W ∧ fitS e.m) Tryz.underlying25 (by kernel_rfl) (by decide) psCl_len (fun n cs x hx => store_cells Tryz.underlying106 (by kernel_rfl) ⟨rfl, rfl⟩ ⟨rfl, rfl⟩ ⟨rfl, rfl⟩ hx) h
 refine ⟨sv, rs.map Ps.m, e, ⟨rs, rfl, h1, fun p hp => (h2 p hp).1⟩, fun m hm => ?_⟩
 obtain ⟨p, hp, rfl⟩ := List.mem_map.1 hm
 exact (h2 p hp).2
def okWorld (m : Wo) : Prop := okConfig m.cfg ∧ okStoreS m.stores ∧ allInt m.lost ∧ okRegister m.reg ∧ (∀ x ∈ m.writers, okWriter x) ∧ (∀ x ∈ m.mends, okMend x) ∧ (∀ x ∈ m.readers, okReader x) ∧ ∀ x ∈ m.sent, okSent x
def IsWorld (v : Value) (m : Wo) (w : World) : Prop := RdWorld v m w ∧ okWorld m
theorem txtWo_of {m : Wo} (h : okWorld m) : txtWo m := ⟨txtSS_of h.2.1, fun x hx => txtW_of (h.2.2.2.2.1 x hx), fun x hx => txtM_of (h.2.2.2.2.2.1 x hx), fun x hx => txtR_of (h.2.2.2.2.2.2.1 x hx), fun x hx => (h.2.2.2.2.2.2.2 x hx).2⟩
theorem world_cells {n : Nat} {cs : List Value} {x : DataW H × List MemPlace} (h : DataW.trod enc Tryz.prog W base (fun _ => true) held n 34 cs = some x) : ∃ m : Wo, IsWorld (.agg cs.toArray) m W := by
 obtain ⟨xs, n', _, rfl, hl, hlen, hf⟩ := DataW.trod_struct Tryz.underlying34 h
 rw [show Tryz.prog.cellsOf 34 = 11 from by kernel_rfl] at hl
 match cs, hl, xs, hlen with
 | [c0, c1, c2, c3, c4, c5, c6, c7, c8, c9, c10], _, [y0, y1, y2, y3, y4, y5, y6, y7, y8], _ =>
  have h0 : DataW.trod enc Tryz.prog W base (fun _ => true) held n' 24 [c0, c1] = some y0 := by
   have q : DataW.trod enc Tryz.prog W base (fun _ => true) held n' 24 (([c0, c1, c2, c3, c4, c5, c6, c7, c8, c9, c10].drop 0).take (Tryz.prog.cellsOf 24)) = some y0 := hf 0 _ rfl
   rw [show Tryz.prog.cellsOf 24 = 2 from by kernel_rfl] at q
   exact q
  have h1 : DataW.trod enc Tryz.prog W base (fun _ => true) held n' 25 [c2] = some y1 := by
   have q : DataW.trod enc Tryz.prog W base (fun _ => true) held n' 25 (([c0, c1, c2, c3, c4, c5, c6, c7, c8, c9, c10].drop 2).take (Tryz.prog.cellsOf 25)) = some y1 := hf 1 _ rfl
   rw [show Tryz.prog.cellsOf 25 = 1 from by kernel_rfl] at q
   exact q
  have h2 : DataW.trod enc Tryz.prog W base (fun _ => true) held n' 22 [c3] = some y2 := by
   have q : DataW.trod enc Tryz.prog W base (fun _ => true) held n' 22 (([c0, c1, c2, c3, c4, c5, c6, c7, c8, c9, c10].drop 3).take (Tryz.prog.cellsOf 22)) = some y2 := hf 2 _ rfl
   rw [show Tryz.prog.cellsOf 22 = 1 from by kernel_rfl] at q
   exact q
  have h3 : DataW.trod enc Tryz.prog W base (fun _ => true) held n' 28 [c4, c5] = some y3 := by
   have q : DataW.trod enc Tryz.prog W base (fun _ => true) held n' 28 (([c0, c1, c2, c3, c4, c5, c6, c7, c8, c9, c10].drop 4).take (Tryz.prog.cellsOf 28)) = some y3 := hf 3 _ rfl
   rw [show Tryz.prog.cellsOf 28 = 2 from by kernel_rfl] at q
   exact q
  have h4 : DataW.trod enc Tryz.prog W base (fun _ => true) held n' 29 [c6] = some y4 := by
   have q : DataW.trod enc Tryz.prog W base (fun _ => true) held n' 29 (([c0, c1, c2, c3, c4, c5, c6, c7, c8, c9, c10].drop 6).take (Tryz.prog.cellsOf 29)) = some y4 := hf 4 _ rfl
   rw [show Tryz.prog.cellsOf 29 = 1 from by kernel_rfl] at q
   exact q
  have h5 : DataW.trod enc Tryz.prog W base (fun _ => true) held n' 30 [c7] = some y5 := by
   have q : DataW.trod enc Tryz.prog W base (fun _ => true) held n' 30 (([c0, c1, c2, c3, c4, c5, c6, c7, c8, c9, c10].drop 7).take (Tryz.prog.cellsOf 30)) = some y5 := hf 5 _ rfl
   rw [show Tryz.prog.cellsOf 30 = 1 from by kernel_rfl] at q
   exact q
  have h6 : DataW.trod enc Tryz.prog W base (fun _ => true) held n' 31 [c8] = some y6 := by
   have q : DataW.trod enc Tryz.prog W base (fun _ => true) held n' 31 (([c0, c1, c2, c3, c4, c5, c6, c7, c8, c9, c10].drop 8).take (Tryz.prog.cellsOf 31)) = some y6 := hf 6 _ rfl
   rw [show Tryz.prog.cellsOf 31 = 1 from by kernel_rfl] at q
   exact q
  have h7 : DataW.trod enc Tryz.prog W base (fun _ => true) held n' 32 [c9] = some y7 := by
   have q : DataW.trod enc Tryz.prog W base (fun _ => true) held n' 32 (([c0, c1, c2, c3, c4, c5, c6, c7, c8, c9, c10].drop 9).take (Tryz.prog.cellsOf 32)) = some y7 := hf 7 _ rfl
   rw [show Tryz.prog.cellsOf 32 = 1 from by kernel_rfl] at q
   exact q
  have h8 : DataW.trod enc Tryz.prog W base (fun _ => true) held n' 4 [c10] = some y8 := by
   have q : DataW.trod enc Tryz.prog W base (fun _ => true) held n' 4 (([c0, c1, c2, c3, c4, c5, c6, c7, c8, c9, c10].drop 10).take (Tryz.prog.cellsOf 4)) = some y8 := hf 8 _ rfl
   rw [show Tryz.prog.cellsOf 4 = 1 from by kernel_rfl] at q
   exact q
  obtain ⟨v0, n0, e0, k0, w0⟩ := config_cells h0
  obtain ⟨v1, n1, e1, k1, w1⟩ := stores_read h1
  obtain ⟨v2, n2, e2, k2, w2⟩ := ints_read h2
  obtain ⟨v3, n3, e3, k3, w3⟩ := register_cells h3
  obtain ⟨v4, n4, e4, k4, w4⟩ := writers_read h4
  obtain ⟨v5, n5, e5, k5, w5⟩ := mends_read h5
  obtain ⟨v6, n6, e6, k6, w6⟩ := readers_read h6
  obtain ⟨v7, n7, e7, k7, w7⟩ := sents_read h7
  obtain ⟨n8, e8, -⟩ := DataW.trod_bool Tryz.underlying4 h8
  simp at e0 e1 e2 e3 e4 e5 e6 e7 e8
  obtain ⟨rfl, rfl⟩ := e0
  subst e1
  subst e2
  obtain ⟨rfl, rfl⟩ := e3
  subst e4
  subst e5
  subst e6
  subst e7
  subst e8
  exact ⟨⟨n0, n1, n2, n3, n4, n5, n6, n7, n8⟩, ⟨_, _, _, _, _, _, _, _, rfl, k0, k1, k2, k3, k4, k5, k6, k7⟩, w0, w1, w2, w3, w4, w5, w6, w7⟩
theorem open_World (hv : Value.okWide Tryz.prog W r b0 34 v) (h : DataW.Trod enc Tryz.prog W base (fun _ => true) held 34 v d p) : ∃ m : Wo, IsWorld v m W := by
 obtain ⟨cs, rfl, hsz⟩ := okWide_struct Tryz.underlying34 hv
 obtain ⟨fuel, hf⟩ := h
 obtain ⟨m, h⟩ := world_cells hf
 have e : (Value.agg cs).cells.toList.toArray = cs := by simp [Value.cells]
 rw [e] at h
 exact ⟨m, h⟩
end Go.Proofs.YtkiclbbialadlaaGreat
