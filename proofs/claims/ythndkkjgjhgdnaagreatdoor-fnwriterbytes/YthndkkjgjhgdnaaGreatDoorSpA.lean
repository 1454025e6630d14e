/- Bytes turned in one place: spec.l17Spoil. -/
import Derived.Test.YthndkkjgjhgdnaaGreatDoorGk56
import Derived.Test.YthndkkjgjhgdnaaGreatDoorGk69
namespace Go.Proofs.YthndkkjgjhgdnaaGreatDoor
open Go.ChangeShapes Go.WideShapes Go.ChangeAt Go.RowKit
set_option linter.unusedVariables false
set_option linter.unusedSimpArgs false
set_option maxRecDepth 100000

theorem OwnB.takeS {w : World} {B : Nat} {a : Option Addr} {n cap k : Nat} {bs : List UInt8} (h : OwnB w B (.slice a n cap) bs) (hk : k ≤ bs.length) : OwnB w B (.slice a k cap) (bs.take k) := by
  obtain ⟨h0, a', cap', he, hcap, h⟩ := h
  cases he
  have hl : (bs.take k).length = k := by simp; omega
  refine ⟨by omega, a, cap, by rw [hl], by rw [hl]; omega, ?_⟩
  rcases h with h | ⟨b, off, rfl, hB, hc⟩
  · exact .inl (by rw [h]; simp)
  · refine .inr ⟨b, off, rfl, hB, fun i hi => ?_⟩
    have hi' : i < bs.length := by omega
    have := hc i hi'
    rw [List.getElem_take]
    exact this
theorem OwnB.setFar {w : World} {B b o : Nat} {v : Value} {bs : List UInt8} (h : OwnB w B v bs) (hb : b < B) (u : Value) : OwnB (w.setCell ⟨b, o, none⟩ u) B v bs := by
  obtain ⟨h0, a, cap, rfl, hcap, h⟩ := h
  refine ⟨h0, a, cap, rfl, hcap, ?_⟩
  rcases h with h | ⟨g, off, rfl, hB, hc⟩
  · exact .inl h
  · exact .inr ⟨g, off, rfl, hB, fun i hi => by
      have := hc i hi
      first | exact set_other this (.inl (by omega)) | exact ⟨set_other this.1 (.inl (by omega)), by simpa using this.2⟩⟩
theorem run_app8n (w : World) (a0 a : Option Addr) (c : Nat) (ty : TypeId) : (Builtin.append_ #[22, 22] ty #[.slice a0 0 0, .slice a 0 c]).run Tryz.prog w = .ok (.slice a0 0 0) w := by
  cases a0 <;> cases a <;> kernel_rfl
/-- append of no bytes to none. -/
theorem wp_app8n {ops : Array Oper} {rest : List Oper} {o : Oper} {a : Act} {Q : Exit → Act → World → Prop} {w : World} (hgd : o.guard = none) (s x : Operand) (ho : o.op = .call { callee := .builtin .append, args := #[s, x], argTypes := #[22, 22] })
    (a0 a1 : Option Addr) (c : Nat) (hs : a.eval s = .slice a0 0 0) (hx : a.eval x = .slice a1 0 c) (h : wpList Tryz.prog ops Q rest (a.put o.dst (.slice a0 0 0)) w) : wpList Tryz.prog ops Q (o :: rest) a w := by
  refine wpList_plain hgd fun K' hK' => ?_
  unfold Oper.wp
  simp [execOp, ho, resolve, invoke, builtin, hs, hx, run_app8n, Result.andThen]
  exact hK' _ _ h
set_option maxHeartbeats 8000000 in
theorem spoil_own (bk : Nat) (v : Value) (PB : List UInt8) (w : World) (hc : Cur w bk) (hv : Bs w v PB) (hl : PB.length ≤ 1000000) :
    Calls Tryz.prog 30 #[.pointer (some ⟨bk, 0, none⟩), v] w fun e w' => (∃ u bs, e = .returned u ∧ OwnB w' w.heap.size u bs ∧ bs.length ≤ PB.length + 1) ∧ Drawn bk w w' := by
  have ba : ∀ (w : World) o, Below w.heap.size w (w.alloc o) := fun w o => (Below.refl _ _).alloc (Nat.le_refl _) o
  have hbk := hc.lt
  have b0 := ba w (.cells #[] 5)
  have hv1 := hv.below b0
  obtain ⟨h0, va, vc, rfl, hcap, -⟩ := hv
  have hc1 := hc.below b0
  have D1 := Drawn.of_below (bk := bk) b0
  by_cases he : PB = []
  · subst he
    have R : Hid (OwnB (w.alloc (.cells #[] 5)) w.heap.size (.slice (some ⟨w.heap.size, 0, none⟩) 0 0) []) := ⟨by simp, _, 0, rfl, by simp, .inl rfl⟩
    clear hv1 hc1 hc b0
    go_enter Tryz.func30, Tryz.ntmps30
    go_wp2_with (at_builtin; refine wp_app8n rfl _ _ rfl _ _ _ rfl rfl ?_)
    go_ret
    exact ⟨⟨_, _, rfl, dUnhide R, by simp⟩, D1⟩
  have hL1 : 0 < PB.length := by
    rcases Nat.eq_zero_or_pos PB.length with h | h
    · exact absurd (List.length_eq_zero_iff.1 h) he
    · exact h
  obtain ⟨vb, vo, rfl, hcs⟩ : ∃ b off, va = some ⟨b, off, none⟩ ∧ ∀ i (h : i < PB.length), (w.alloc (.cells #[] 5)).cell? ⟨b, off + i, none⟩ = some (.int .u8 (PB[i].toNat : Int)) := by
    obtain ⟨-, a, c, e, -, h⟩ := hv1
    cases e
    exact or_of_lt h hL1
  have own0 : (w.alloc (.cells #[] 5)).ownsRow w.heap.size 5 1 (.slice (some ⟨w.heap.size, 0, none⟩) 0 0) ([] : List UInt8).length (bcells []) := World.ownsRow_made w #[] 0 (Nat.le_refl _) (by decide) (by simp)
  have hsz : w.heap.size ≤ (w.alloc (.cells #[] 5)).heap.size := b0.size
  clear hv1 he hc
  go_enter Tryz.func30, Tryz.ntmps30
  go_wp2_with (at_builtin; refine app8 _ rfl _ _ rfl w.heap.size _ [] rfl own0 ⟨vb, vo, none⟩ PB.length vc PB rfl rfl (src_cells hcs) ?hb ?hbase ?_)
  case hb => simp only [List.length_nil]; omega
  case hbase => first | exact hsz | (simp; done) | simp
  intro u2 w2 o2 r2
  have D2 := Drawn.grown D1 r2 (fun k e => by have := (own0.lt k e).1; omega)
  have hc2 := hc1.grown r2 (fun k e => by have := (own0.lt k e).1; omega)
  obtain ⟨g5, c5, rfl⟩ := own_some o2 hL1
  have hg5 : w.heap.size ≤ g5 := (o2.lt g5 rfl).1
  have hgk : bk < g5 := by omega
  have HL := dHide hL1
  clear own0 hcs hc1 D1 r2 b0 hsz
  go_wp2_with fail
  refine (l1Below_any bk 6 (by omega) (by omega) _ hc2).mono ?_
  rintro e w6 ⟨⟨z, hz, rfl⟩, hc6, hd6⟩
  have o6 := o2.kept hd6.row (.inr (by simp [Value.ownBlock]; omega))
  have D6 := D2.trans hd6
  clear o2 hc2 hd6 D2
  by_cases z0 : ((z : Int) == 0) = true
  · go_wp2_with fail
    refine (l1Below_any bk PB.length hL1 (by omega) _ hc6).mono ?_
    rintro e w7 ⟨⟨j, hj, rfl⟩, hc7, hd7⟩
    have o7 := o6.kept hd7.row (.inr (by simp [Value.ownBlock]; omega))
    have D7 := D6.trans hd7
    clear o6 hc6 hd7 D6
    go_wp2_with fail
    refine (pick_new hc7 [0, 1, 2, 3, 7, 8, 127, 128, 255] _ (by simp) (by simp) _).mono ?_
    rintro e w8 ⟨⟨y, hy, rfl⟩, hc8, hd8⟩
    have hy0 : 0 ≤ y ∧ y ≤ 255 := by
      simp only [List.mem_cons, List.mem_nil_iff, or_false] at hy
      omega
    clear hy
    have o8 := o7.kept hd8.row (.inr (by simp [Value.ownBlock]; omega))
    have D8 := D7.trans hd8
    clear o7 hc7 hd8 D7
    obtain ⟨c, rfl⟩ : ∃ c : UInt8, (c.toNat : Int) = y := ⟨UInt8.ofNat y.toNat, by simp; omega⟩
    have hcell := o8.cellAt j (by omega)
    have hfz := o8.frozenAt j
    obtain ⟨o9, r9⟩ := o8.stored j (.int .u8 (c.toNat : Int))
    have hcell' : w8.cell? ⟨g5, j, none⟩ = some (.int .u8 (PB[j].toNat : Int)) := by rw [hcell]; simp [bcells, hj]
    have e9 : (bcells PB).set j (.int .u8 (c.toNat : Int)) = bcells (PB.set j c) := by simp [bcells, List.map_set]
    rw [e9] at o9
    have q9 := dHide (ownB_of_row o9)
    have D9 := dHide (D8.grown r9 (fun k e => by cases e; omega))
    clear o8 o9 r9 e9 hcell D8
    go_wp2
    go_ret
    exact ⟨⟨_, _, rfl, dUnhide q9, by simp⟩, dUnhide D9⟩
  · have z0' : ((z : Int) == 0) = false := by simpa using z0
    clear z0
    by_cases z1 : ((z : Int) == 1) = true
    · go_wp2_with fail
      refine (l1Below_any bk (PB.length + 1) (by omega) (by omega) _ hc6).mono ?_
      rintro e w7 ⟨⟨j, hj, rfl⟩, hc7, hd7⟩
      have o7 := o6.kept hd7.row (.inr (by simp [Value.ownBlock]; omega))
      have D7 := dHide (D6.trans hd7)
      have q7 := ownB_of_row o7
      have hcap : PB.length ≤ c5 ∧ c5 ≤ 9223372036854775807 := by
        obtain ⟨_, a', cap', he, hcap, _⟩ := q7.bs
        cases he
        exact hcap
      have q8 := dHide (q7.takeS (show j ≤ PB.length by omega))
      clear o6 hc6 hd7 o7 q7 D6
      have hj1 : (0 : Int) ≤ (j : Int) := by omega
      have hj2 : (j : Int) ≤ (c5 : Int) := by omega
      go_wp2
      go_ret
      exact ⟨⟨_, _, rfl, dUnhide q8, by simp; omega⟩, dUnhide D7⟩
    · have z1' : ((z : Int) == 1) = false := by simpa using z1
      clear z1
      by_cases z2 : ((z : Int) == 2) = true
      · have bZ := ba w6 (.cells #[.int .u8 0] 5)
        have o7 := own_kept o6 (Below.row bZ none)
        have D7 := D6.trans (Drawn.of_below (bk := bk) bZ)
        have hz7 : w.heap.size ≤ (w6.alloc (.cells #[.int .u8 0] 5)).heap.size := by have := (o7.lt g5 rfl).2; omega
        clear o6 hc6
        go_wp2_with (at_builtin; refine app8 _ rfl _ _ rfl w.heap.size _ PB rfl o7 ⟨w6.heap.size, 0, none⟩ 1 1 ([0] : List UInt8) rfl rfl (one_byte w6 0 0 5 (by decide)) (by simp; omega) hz7 ?_; intro v8 w8 o8 r8)
        have D8 := dHide (D7.grown r8 (fun k hk => by have := (o7.lt k hk).1; omega))
        have q8 := dHide (ownB_of_row (own_len8 o8))
        clear o7 o8 r8 D7 bZ D6
        go_wp2
        go_ret
        exact ⟨⟨_, _, rfl, dUnhide q8, by simp⟩, dUnhide D8⟩
      · have z2' : ((z : Int) == 2) = false := by simpa using z2
        clear z2
        have q7 := dHide (ownB_of_row o6)
        replace D6 := dHide D6
        clear o6 hc6
        go_wp2
        go_ret
        exact ⟨⟨_, _, rfl, dUnhide q7, by omega⟩, dUnhide D6⟩
theorem spoil_any (bk : Nat) (v : Value) (PB : List UInt8) (w : World) (hc : Cur w bk) (hv : Bs w v PB) (hl : PB.length ≤ 1000000) :
    Calls Tryz.prog 30 #[.pointer (some ⟨bk, 0, none⟩), v] w fun e w' => (∃ u bs, e = .returned u ∧ Bs w' u bs ∧ bs.length ≤ PB.length + 1) ∧ Drawn bk w w' :=
  (spoil_own bk v PB w hc hv hl).mono fun e w' ⟨⟨u, bs, h1, h2, h3⟩, h4⟩ => ⟨⟨u, bs, h1, h2.bs, h3⟩, h4⟩
end Go.Proofs.YthndkkjgjhgdnaaGreatDoor
