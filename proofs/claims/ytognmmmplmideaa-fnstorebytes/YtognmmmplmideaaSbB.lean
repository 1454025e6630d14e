/- DrawStoreRead. -/
import Derived.Test.YtognmmmplmideaaStP
import Derived.Test.YtognmmmplmideaaSbA
import Derived.Test.YtognmmmplmideaaBuE
namespace Go.Proofs.Ytognmmmplmideaa
open Go.ChangeShapes Go.WideShapes Go.ChangeAt Go.RowKit
set_option linter.unusedVariables false
set_option linter.unusedSimpArgs false
set_option maxRecDepth 100000

theorem Bs.takeS {w : World} {a : Option Addr} {n cap k : Nat} {bs : List UInt8} (h : Bs w (.slice a n cap) bs) (hk : k ≤ bs.length) : Bs w (.slice a k cap) (bs.take k) := by
  obtain ⟨h0, a', cap', he, hcap, h⟩ := h
  cases he
  have hl : (bs.take k).length = k := by simp; omega
  refine ⟨by omega, a, cap, by rw [hl], by rw [hl]; omega, ?_⟩
  rcases h with h | ⟨b, off, rfl, hc⟩
  · exact .inl (by rw [h]; simp)
  · refine .inr ⟨b, off, rfl, fun i hi => ?_⟩
    rw [hc i (by omega)]
    simp
/-- The bytes of a drawn store: in what memory is not said. -/
def Drew6B (w' : World) (v : Value) : Prop := ∃ bs, Bs w' v bs ∧ bs.length ≤ 20000
set_option maxHeartbeats 8000000 in
theorem drawStoreRead_any (a : Option Addr) (len cap : Nat) (w : World) (hr : Row8 w a len) :
    Calls Try.prog 13 #[.slice a len cap] w fun e w' => (∃ v, e = .returned v ∧ Drew6B w' v) ∧ Below w.heap.size w w' := by
  have ba : ∀ (w : World) o, Below w.heap.size w (w.alloc o) := fun w o => (Below.refl _ _).alloc (Nat.le_refl _) o
  go_enter Try.func13, Try.ntmps13
  go_wp2_with fail
  refine (l1New_any a len cap w hr).mono ?_
  rintro e w1 ⟨bk, rfl, hbk, hc1, B1⟩
  have hk1 := hc1.lt
  clear hr
  go_wp2_with fail
  refine (l6DrawRight_any bk w1 hc1).mono ?_
  rintro e w2 ⟨⟨u, rfl, s, O2, hf, hkl, hll⟩, hc2, hd2⟩
  obtain ⟨ka, kc, la, lc, rfl⟩ := O2.shape
  have B2 := hd2.below B1 B1.size hbk
  have hs2 := hd2.size
  have bA := ba w2 (.cells #[.slice ka s.kept.length kc, .slice none 0 0, .int .i64 s.lock] 26)
  have X3 := Bx.new w2 [.slice ka s.kept.length kc, .slice none 0 0, .int .i64 s.lock] 26
  have BY := belowThen B2 bA
  have O3 := O2.below bA
  have hcY := hc2.below bA
  have hx2 : w2.heap.size < (w2.alloc (.cells #[.slice ka s.kept.length kc, .slice none 0 0, .int .i64 s.lock] 26)).heap.size := by simp
  clear hc1 B1 O2 hc2 hd2 bA
  go_wp2_with fail
  generalize w2.alloc (.cells #[.slice ka s.kept.length kc, .slice none 0 0, .int .i64 s.lock] 26) = w4 at *
  have OY : OwS w4 w1.heap.size (.agg #[.slice ka s.kept.length kc, .slice none 0 0, .int .i64 s.lock]) ⟨s.kept, [], s.lock⟩ := by
    obtain ⟨kv, lv, e, p1, p2, p3⟩ := O3
    cases e
    exact ⟨_, _, rfl, p1, .inl ⟨rfl, none, rfl⟩, (by by_cases h : touch (.slice ka s.kept.length kc) = none; exact .inl h; exact .inr h)⟩
  have HF : fitS ⟨s.kept, [], s.lock⟩ := ⟨hf.1, (fun e he => by cases he), hf.2.2⟩
  have CP := dHide (specStorePack_row _ ⟨s.kept, [], s.lock⟩ _ OY.rs HF)
  have PL : Hid ((packM ⟨s.kept, [], s.lock⟩).2 = true → 0 < (packM ⟨s.kept, [], s.lock⟩).1.length ∧ (packM ⟨s.kept, [], s.lock⟩).1.length ≤ 15300) := by
    intro h
    by_cases hp : packP ⟨s.kept, [], s.lock⟩
    · rw [packM_yes hp]
      have := packS_len hp.1
      exact ⟨this.2, this.1⟩
    · rw [packM_no hp] at h; cases h
  have PF : Hid ((packM ⟨s.kept, [], s.lock⟩).2 = false → (packM ⟨s.kept, [], s.lock⟩).1 = []) := by
    intro h
    by_cases hp : packP ⟨s.kept, [], s.lock⟩
    · rw [packM_yes hp] at h; cases h
    · rw [packM_no hp]
  have hw2 : w.heap.size ≤ w2.heap.size := B2.size
  generalize packM ⟨s.kept, [], s.lock⟩ = M at *
  clear O3 OY HF hf X3 B2
  obtain ⟨PB, pb⟩ := M
  refine (dUnhide CP).mono ?_
  rintro e w5 ⟨⟨u5, rfl, Q5, R5⟩, b5⟩
  have hc5 := hcY.below b5
  have B5 := belowThen BY b5
  have hs5 := b5.size
  clear CP hcY BY b5
  simp only at *
  cases pb
  · obtain rfl := dUnhide PF rfl
    have q5 := dHide Q5.bs
    clear Q5 R5 PL PF
    go_wp2
    go_ret
    exact ⟨⟨_, rfl, [], dUnhide q5, by simp⟩, B5⟩
  · obtain ⟨hL1, hL⟩ := dUnhide PL rfl
    have o5 := own_mono (R5 (by intro h; rw [h] at hL1; simp at hL1)) (show w2.heap.size ≤ w4.heap.size by omega)
    obtain ⟨g5, c5, rfl⟩ := own_some o5 hL1
    have hg5 : w2.heap.size ≤ g5 := (o5.lt g5 rfl).1
    have hgk : bk < g5 := by omega
    have hwg : w.heap.size ≤ g5 := by omega
    clear Q5 R5 PL PF
    go_wp2_with fail
    refine (l1Below_any bk 5 (by omega) (by omega) _ hc5).mono ?_
    rintro e w6 ⟨⟨z, hz, rfl⟩, hc6, hd6⟩
    have o6 := o5.kept hd6.row (.inr (by simp [Value.ownBlock]; omega))
    have hb6 : Below w.heap.size w w6 := hd6.below B5 B5.size hbk
    clear o5 hc5 hd6 B5
    by_cases z0 : ((z : Int) == 0) = true
    · go_wp2_with fail
      refine (l1Below_any bk PB.length hL1 (by omega) _ hc6).mono ?_
      rintro e w7 ⟨⟨j, hj, rfl⟩, hc7, hd7⟩
      have o7 := o6.kept hd7.row (.inr (by simp [Value.ownBlock]; omega))
      have hb7 : Below w.heap.size w w7 := hd7.below hb6 hb6.size hbk
      clear o6 hc6 hd7 hb6
      go_wp2_with fail
      refine (pick_new hc7 [0, 1, 2, 3, 127, 128, 255] _ (by simp) (by simp) _).mono ?_
      rintro e w8 ⟨⟨y, hy, rfl⟩, hc8, hd8⟩
      have hy0 : 0 ≤ y ∧ y ≤ 255 := by
        simp only [List.mem_cons, List.mem_nil_iff, or_false] at hy
        omega
      clear hy
      have o8 := o7.kept hd8.row (.inr (by simp [Value.ownBlock]; omega))
      have hb8 : Below w.heap.size w w8 := hd8.below hb7 hb7.size hbk
      clear o7 hc7 hd8 hb7
      obtain ⟨c, rfl⟩ : ∃ c : UInt8, (c.toNat : Int) = y := ⟨UInt8.ofNat y.toNat, by simp; omega⟩
      have hcell := o8.cellAt j (by omega)
      have hfz := o8.frozenAt j
      obtain ⟨o9, r9⟩ := o8.stored j (.int .u8 (c.toNat : Int))
      have hcell' : w8.cell? ⟨g5, j, none⟩ = some (.int .u8 (PB[j].toNat : Int)) := by rw [hcell]; simp [bcells, hj]
      have e9 : (bcells PB).set j (.int .u8 (c.toNat : Int)) = bcells (PB.set j c) := by simp [bcells, List.map_set]
      rw [e9] at o9
      have q9 := dHide (ownB_of_row o9).bs
      have hb9 : Below w.heap.size w (w8.setCell ⟨g5, j, none⟩ (.int .u8 (c.toNat : Int))) := hb8.grown r9 hb8.size (fun k e => by cases e; omega)
      clear o8 o9 r9 e9 hb8 hcell
      go_wp2
      go_ret
      exact ⟨⟨_, rfl, _, dUnhide q9, by simp; omega⟩, hb9⟩
    · have z0' : ((z : Int) == 0) = false := by simpa using z0
      clear z0
      by_cases z1 : ((z : Int) == 1) = true
      · go_wp2_with fail
        refine (l1Below_any bk (PB.length + 1) (by omega) (by omega) _ hc6).mono ?_
        rintro e w7 ⟨⟨j, hj, rfl⟩, hc7, hd7⟩
        have o7 := o6.kept hd7.row (.inr (by simp [Value.ownBlock]; omega))
        have hb7 : Below w.heap.size w w7 := hd7.below hb6 hb6.size hbk
        have q7 := (ownB_of_row o7).bs
        have hcap : PB.length ≤ c5 ∧ c5 ≤ 9223372036854775807 := by
          obtain ⟨_, a', cap', he, hcap, _⟩ := q7
          cases he
          exact hcap
        have q8 := dHide (q7.takeS (show j ≤ PB.length by omega))
        clear o6 hc6 hd7 hb6 o7 q7
        have hj1 : (0 : Int) ≤ (j : Int) := by omega
        have hj2 : (j : Int) ≤ (c5 : Int) := by omega
        go_wp2
        go_ret
        exact ⟨⟨_, rfl, _, dUnhide q8, by simp; omega⟩, hb7⟩
      · have z1' : ((z : Int) == 1) = false := by simpa using z1
        clear z1
        by_cases z2 : ((z : Int) == 2) = true
        · have bZ := ba w6 (.cells #[.int .u8 0] 5)
          have o7 := own_kept o6 (Below.row bZ none)
          have hb7 := belowThen hb6 bZ
          have hz7 : w2.heap.size ≤ (w6.alloc (.cells #[.int .u8 0] 5)).heap.size := by have := (o7.lt g5 rfl).2; omega
          clear o6 hc6
          go_wp2_with (at_builtin; refine app8 _ rfl _ _ rfl w2.heap.size _ PB rfl o7 ⟨w6.heap.size, 0, none⟩ 1 1 ([0] : List UInt8) rfl rfl (one_byte w6 0 0 5 (by decide)) (by simp; omega) hz7 ?_; intro v8 w8 o8 r8)
          have hb8 : Below w.heap.size w w8 := hb7.grown r8 hb7.size (fun k hk => by have := (o7.lt k hk).1; omega)
          have q8 := dHide (ownB_of_row (own_len8 o8)).bs
          clear o7 o8 r8 hb7 bZ
          go_wp2
          go_ret
          exact ⟨⟨_, rfl, _, dUnhide q8, by simp; omega⟩, hb8⟩
        · have z2' : ((z : Int) == 2) = false := by simpa using z2
          clear z2
          have q7 := dHide (ownB_of_row o6).bs
          clear o6 hc6
          go_wp2
          go_ret
          exact ⟨⟨_, rfl, _, dUnhide q7, by omega⟩, hb6⟩
end Go.Proofs.Ytognmmmplmideaa
