/- spec's EntryPack. -/
import Derived.Test.YtcjchbapeoeaeaaEntA
import Derived.Test.YtcjchbapeoeaeaaPutA
import Derived.Test.YtcjchbapeoeaeaaAppB
import Derived.Deep.RegionHeld3
namespace Go.Proofs.Ytcjchbapeoeaeaa
open Go.ChangeShapes Go.WideShapes Go.ChangeAt Go.RowKit
set_option linter.unusedVariables false

theorem bytes_loop_len (b : ByteArray) (i : Nat) (r : List UInt8) : (ByteArray.toList.loop b i r).length = (b.size - i) + r.length := by
  induction h : b.size - i generalizing i r with
  | zero =>
    rw [ByteArray.toList.loop]
    have : ¬ i < b.size := by omega
    simp [this]
  | succ n ih =>
    rw [ByteArray.toList.loop]
    have : i < b.size := by omega
    simp [this]
    rw [ih (i+1) _ (by omega)]
    simp
    omega
theorem bytes_ne (d : ByteArray) (h : d.size ≠ 0) : d.toList.isEmpty = false := by
  have e : d.toList.length = d.size := by rw [ByteArray.toList, bytes_loop_len]; simp
  cases hd : d.toList with
  | nil => rw [hd] at e; simp at e; omega
  | cons a l => rfl
theorem bytes_nil (d : ByteArray) (h : d.size = 0) : d = ⟨#[]⟩ := by
  obtain ⟨a⟩ := d
  have : a.size = 0 := h
  congr 1
  exact Array.eq_empty_of_size_eq_zero this
theorem specEntOk_yes (e : Ent) (h : entP e) (w : World) :
    Calls Try.prog 12 #[e.val] w fun r w' => r = .returned (.bool true) ∧ Below w.heap.size w w' := by
  obtain ⟨x, v, h0, d⟩ := e
  obtain ⟨hp, v0, v1, hv, hd, hh⟩ := h
  simp only at hp v0 v1 hv hd hh
  rcases Int.lt_or_le 0 v with hv0 | hv0
  · have hv' := hv hv0
    cases h0 with
    | false => exact specEntOk_w1 x v d hp hv0 v1 hv' (by omega) w
    | true =>
      obtain rfl := bytes_nil d (hh rfl).2
      exact specEntOk_w2 x v hp hv0 v1 hv' w
  · obtain rfl : v = 0 := by omega
    cases h0 with
    | false => exact specEntOk_w0f x d hp (by omega) w
    | true => exact absurd (hh rfl).1 (by omega)
theorem specEntOk_no (e : Ent) (hf : e.fits) (h : ¬ entP e) (w : World) :
    Calls Try.prog 12 #[e.val] w fun r w' => r = .returned (.bool false) ∧ Below w.heap.size w w' := by
  obtain ⟨x, v, h0, d⟩ := e
  obtain ⟨f1, f2, f3, f4, f5⟩ := hf
  simp only at f1 f2 f3 f4 f5
  unfold entP at h
  simp only at h
  by_cases hp : isPl x
  · by_cases hr : v < 0 ∨ 30 < v
    · exact specEntOk_no2 x v h0 d hp hr w
    · have r0 : 0 ≤ v := by omega
      have r1 : v ≤ 30 := by omega
      by_cases hd : (40 : Int) < (d.size : Int)
      · rcases Int.lt_or_le 0 v with hv0 | hv0
        · by_cases hv : v ≤ x / 4294967296
          · exact specEntOk_no3 x v h0 d hp hv0 r1 hv w
          · exact specEntOk_no5 x v h0 d hp hv0 r1 (by omega) hd w
        · obtain rfl : v = 0 := by omega
          exact specEntOk_no4 x h0 d hp hd w
      · rcases Int.lt_or_le 0 v with hv0 | hv0
        · by_cases hv : v ≤ x / 4294967296
          · exact specEntOk_no3 x v h0 d hp hv0 r1 hv w
          · cases h0 with
            | false => exact absurd ⟨hp, r0, r1, fun _ => by omega, by omega, fun h => by cases h⟩ h
            | true =>
              refine specEntOk_w3 x v d hp hv0 r1 (by omega) (by omega) (bytes_ne d fun h1 => ?_) w
              exact h ⟨hp, r0, r1, fun _ => by omega, by omega, fun _ => ⟨hv0, h1⟩⟩
        · obtain rfl : v = 0 := by omega
          cases h0 with
          | false => exact absurd ⟨hp, r0, r1, fun h => by omega, by omega, fun h => by cases h⟩ h
          | true => exact specEntOk_w0t x d hp (by omega) w
  · exact specEntOk_no1 x v h0 d f2 hp w
/-- 1 or 0. -/
def bitN (h : Bool) : Nat := if h then 1 else 0
theorem l3Bit_any (h : Bool) (w : World) : Calls Try.prog 55 #[.bool h] w fun e w' => e = .returned (.int .i64 (bitN h : Int)) ∧ w' = w := by
  cases h
  · go_enter Try.func55, Try.ntmps55
    go_wp2
    go_ret
    exact ⟨rfl, rfl⟩
  · go_enter Try.func55, Try.ntmps55
    go_wp2
    go_ret
    exact ⟨rfl, rfl⟩
/-- An entry's bytes. -/
def packB (n1 n2 : Nat) (h : Bool) (d : List UInt8) : List UInt8 := numB n1 ++ numB n2 ++ numB (bitN h) ++ textB d
theorem numB_pos (x : Nat) : 0 < (numB x).length := by
  unfold numB
  by_cases h : x < 128
  · rw [numF_small h]; simp
  · rw [numF_big h]; simp
/-- append on bytes, as one step of a region that draws. -/
theorem step_app8 {ops : Array Oper} {o : Oper} {a : Act} {w : World} {K : Act → World → Prop} {Q : Exit → Act → World → Prop} {E : Prop}
    (hg : o.guard = none) (s x : Operand) (hop : o.op = .call { callee := .builtin .append, args := #[s, x], argTypes := #[22, 22] })
    (base : Nat) (v : Value) (bs : List UInt8) (hs : a.eval s = v) (hown : w.ownsRow base 5 1 v bs.length (bcells bs))
    (g m c : Nat) (cs : List UInt8) (hx : a.eval x = .slice (some ⟨g, 0, none⟩) m c) (hsrc : w.ownsRow base 5 1 (.slice (some ⟨g, 0, none⟩) m c) cs.length (bcells cs))
    (hb : bs.length + cs.length ≤ 1099511627776) (hbase : base ≤ w.heap.size)
    (h : ∀ v' w', w'.ownsRow base 5 1 v' (bs ++ cs).length (bcells (bs ++ cs)) → w.grownBy w' v.ownBlock → K (a.put o.dst v') w') :
    if Region.wanted o (yielded ops a.tmps) = true then Oper.wp Try.prog o a w K Q else E := by
  obtain ⟨i0, hi, hz0, hz1, hz2⟩ := info_parts info8a
  have hm : maxLen = 9223372036854775807 := rfl
  have hlen : cs.length = m := by
    rcases hsrc.2 with ⟨h0, _⟩ | ⟨g', cap, cur, h0, _⟩
    · cases h0
    · cases h0; rfl
  subst hlen
  have hw : Region.wanted o (yielded ops a.tmps) = true := by simp [Region.wanted, hg]
  rw [if_pos hw]
  obtain ⟨v', w', hrun, h1, h2, _⟩ := run_append_own (P := Try.prog) w base 22 o.type 5 i0 (.int .u8 0) 1 1 Try.underlying22 hi hz0 hz1 hz2 rfl (by decide) v bs.length (bcells bs) hown ⟨g, 0, none⟩ cs.length c (bcells cs) (by simp [bcells]) (hsrc.cells rfl) (cells_one _) (by omega) (by omega) hbase
  have h3 := h v' w' (by
    have e : bcells (bs ++ cs) = bcells bs ++ bcells cs := by simp [bcells]
    rw [e, List.length_append]; exact h1) h2
  unfold Oper.wp
  simp [execOp, hop, resolve, invoke, builtin, hs, hx, hrun, Result.andThen]
  exact h3
theorem own_mono {w : World} {B B' n : Nat} {v : Value} {l : List Value} (h : w.ownsRow B 5 1 v n l) (hB : B' ≤ B) : w.ownsRow B' 5 1 v n l := by
  refine ⟨h.1, ?_⟩
  rcases h.2 with h0 | ⟨g, cap, cur, h1, h2, h3⟩
  · exact .inl h0
  · exact .inr ⟨g, cap, cur, h1, by omega, h3⟩
theorem own_some {w : World} {B n : Nat} {v : Value} {l : List Value} (h : w.ownsRow B 5 1 v n l) (hn : 0 < n) : ∃ g cap, v = .slice (some ⟨g, 0, none⟩) n cap := by
  rcases h.2 with ⟨_, h0⟩ | ⟨g, cap, cur, h1, h2, h3⟩
  · omega
  · exact ⟨g, cap, h1⟩
theorem Below.row {w w' : World} (h : Below w.heap.size w w') (row : Option Nat) : w.grownBy w' row := ⟨h.os, h.tape, h.output, h.size, fun k hk _ => h.block k hk⟩
theorem own_kept {w w' : World} {B n : Nat} {v : Value} {l : List Value} (h : w.ownsRow B 5 1 v n l) (hg : w.grownBy w' none) : w'.ownsRow B 5 1 v n l :=
  h.kept hg (by cases v.ownBlock <;> simp)
theorem own_len8 {w : World} {B n : Nat} {v : Value} {l : List UInt8} (h : w.ownsRow B 5 1 v n (bcells l)) : w.ownsRow B 5 1 v l.length (bcells l) := by
  have e : l.length = n := by have := h.1; simpa [bcells] using this
  rw [e]; exact h
/-- spec.PutNum in whatever later world. -/
theorem put_at (n : Nat) (h : n ≤ 9223372036854775807) (w0 W : World) (hb : Below w0.heap.size w0 W) :
    Calls Try.prog 54 #[.int .i64 (n : Int)] W fun e w' => ∃ g cap, e = .returned (.slice (some ⟨g, 0, none⟩) (numB n).length cap) ∧ w'.ownsRow w0.heap.size 5 1 (.slice (some ⟨g, 0, none⟩) (numB n).length cap) (numB n).length (bcells (numB n)) ∧ W.grownBy w' none ∧ Below w0.heap.size w0 w' := by
  refine (specPut_yes n h W).mono fun e w' ⟨⟨v, h1, h2⟩, h3⟩ => ?_
  obtain ⟨g, cap, rfl⟩ := own_some h2 (numB_pos n)
  exact ⟨g, cap, h1, own_mono h2 hb.size, Below.row h3 none, hb.trans (h3.mono hb.size)⟩
/-- spec.PutText in whatever later world. -/
theorem putT_at (s : ByteArray) (h : s.size ≤ 1099511627776) (w0 W : World) (hb : Below w0.heap.size w0 W) :
    Calls Try.prog 56 #[.string s] W fun e w' => ∃ g cap, e = .returned (.slice (some ⟨g, 0, none⟩) (textB s.data.toList).length cap) ∧ w'.ownsRow w0.heap.size 5 1 (.slice (some ⟨g, 0, none⟩) (textB s.data.toList).length cap) (textB s.data.toList).length (bcells (textB s.data.toList)) ∧ W.grownBy w' none ∧ Below w0.heap.size w0 w' := by
  refine (specPutText_any s h W).mono fun e w' ⟨⟨v, h1, h2⟩, h3⟩ => ?_
  obtain ⟨g, cap, rfl⟩ := own_some h2 (by rw [textB, List.length_append]; have := numB_pos s.data.toList.length; omega)
  exact ⟨g, cap, h1, own_mono h2 hb.size, Below.row h3 none, hb.trans (h3.mono hb.size)⟩
set_option maxHeartbeats 1000000 in
theorem l3Pack_any (n1 n2 : Nat) (h : Bool) (d : ByteArray) (h1 : n1 ≤ 9223372036854775807) (h2 : n2 ≤ 9223372036854775807) (hd : d.size ≤ 1048576) (w : World) :
    Calls Try.prog 39 #[.agg #[.int .i64 (n1 : Int), .int .i64 (n2 : Int), .bool h, .string d]] w fun e w' => (∃ v, e = .returned v ∧ w'.ownsRow w.heap.size 5 1 v (packB n1 n2 h d.data.toList).length (bcells (packB n1 n2 h d.data.toList))) ∧ Below w.heap.size w w' := by
  have l1 := numB_len n1
  have l2 := numB_len n2
  have l3 := numB_len (bitN h)
  have l4 := numB_len d.data.toList.length
  have hsz : d.data.toList.length = d.size := by rw [← Lib.size_eq]
  have l5 : (textB d.data.toList).length ≤ 1048576 + 9 := by rw [textB, List.length_append]; omega
  have hbit : bitN h ≤ 9223372036854775807 := by cases h <;> decide
  have hpk : packB n1 n2 h d.data.toList = numB n1 ++ (numB n2 ++ (numB (bitN h) ++ textB d.data.toList)) := by simp only [packB, List.append_assoc]
  have HPK := dHide hpk
  go_enter Try.func39, Try.ntmps39
  go_wp2
  have c0 : (w.alloc (Obj.cells #[Value.int .i64 ↑n1, Value.int .i64 ↑n2, Value.bool h, Value.string d] 25)).cell? ⟨w.heap.size, 0, none⟩ = some (.int .i64 n1) := by simp
  have c1 : (w.alloc (Obj.cells #[Value.int .i64 ↑n1, Value.int .i64 ↑n2, Value.bool h, Value.string d] 25)).cell? ⟨w.heap.size, 1, none⟩ = some (.int .i64 n2) := by simp
  have c2 : (w.alloc (Obj.cells #[Value.int .i64 ↑n1, Value.int .i64 ↑n2, Value.bool h, Value.string d] 25)).cell? ⟨w.heap.size, 2, none⟩ = some (.bool h) := by simp
  have c3 : (w.alloc (Obj.cells #[Value.int .i64 ↑n1, Value.int .i64 ↑n2, Value.bool h, Value.string d] 25)).cell? ⟨w.heap.size, 3, none⟩ = some (.string d) := by simp
  have hw0 : Below w.heap.size w (w.alloc (Obj.cells #[Value.int .i64 ↑n1, Value.int .i64 ↑n2, Value.bool h, Value.string d] 25)) := (Below.refl _ _).alloc (Nat.le_refl _) _
  clear hpk hsz
  generalize w.alloc (Obj.cells #[Value.int .i64 ↑n1, Value.int .i64 ↑n2, Value.bool h, Value.string d] 25) = w0 at *
  have hC : ∀ W, Below w0.heap.size w0 W → W.cell? ⟨w.heap.size, 0, none⟩ = some (.int .i64 n1) ∧ W.cell? ⟨w.heap.size, 1, none⟩ = some (.int .i64 n2) ∧ W.cell? ⟨w.heap.size, 2, none⟩ = some (.bool h) ∧ W.cell? ⟨w.heap.size, 3, none⟩ = some (.string d) := fun W hb =>
    ⟨(hb.cell (p := ⟨w.heap.size, 0, none⟩) (dCell_lt c0)).trans c0, (hb.cell (p := ⟨w.heap.size, 1, none⟩) (dCell_lt c1)).trans c1, (hb.cell (p := ⟨w.heap.size, 2, none⟩) (dCell_lt c2)).trans c2, (hb.cell (p := ⟨w.heap.size, 3, none⟩) (dCell_lt c3)).trans c3⟩
  have HC := dHide hC
  have hbd : Below w0.heap.size w0 w0.drew := (Below.refl _ _).drew
  clear hC
  go_region_held3 (fun W => W.cell? ⟨w.heap.size, 0, none⟩ = some (.int .i64 n1) ∧ W.cell? ⟨w.heap.size, 1, none⟩ = some (.int .i64 n2) ∧ W.cell? ⟨w.heap.size, 2, none⟩ = some (.bool h)) (go_keep)
    (first
      | (go_at_call_of 54 (Value.int .i64 (n1 : Int)); refine (put_at n1 h1 w0 _ (by assumption)).mono ?_; rintro e w1 ⟨g1, c1, rfl, o1, r1, b1⟩; obtain ⟨k10, k11, k12, k13⟩ := dUnhide HC w1 b1)
      | (go_at_call_of 54 (Value.int .i64 (n2 : Int)); refine (put_at n2 h2 w0 _ (by assumption)).mono ?_; rintro e w2 ⟨g2, c2, rfl, o2, r2, b2⟩; obtain ⟨k20, k21, k22, k23⟩ := dUnhide HC w2 b2; have o1 := own_kept o1 r2)
      | (refine step_app8 rfl _ _ rfl w0.heap.size _ (numB n1) rfl o1 _ _ _ (numB n2) rfl o2 (by omega) b2.size ?_; intro v3 w3 o3 r3; have b3 := b2.grown r3 b2.size (fun k hk => (o1.lt k hk).1); obtain ⟨k30, k31, k32, k33⟩ := dUnhide HC w3 b3)
      | (go_at_call 55; refine (l3Bit_any h _).mono ?_; rintro e w' ⟨rfl, rfl⟩)
      | (go_at_call_of 54 (Value.int .i64 (bitN h : Int)); refine (put_at (bitN h) hbit w0 _ (by assumption)).mono ?_; rintro e w4 ⟨g4, c4, rfl, o4, r4, b4⟩; obtain ⟨k40, k41, k42, k43⟩ := dUnhide HC w4 b4; have o3 := own_kept o3 r4)
      | (refine step_app8 rfl _ _ rfl w0.heap.size _ (numB n1 ++ numB n2) rfl o3 _ _ _ (numB (bitN h)) rfl o4 (by simp only [List.length_append]; omega) b4.size ?_; intro v5 w5 o5 r5; have b5 := b4.grown r5 b4.size (fun k hk => (o3.lt k hk).1); obtain ⟨k50, k51, k52, k53⟩ := dUnhide HC w5 b5))
  have hlt5 := o5.lt
  clear o1 o2 o3 o4 r1 r2 r3 r4 r5 b1 b2 b3 b4 k10 k11 k12 k13 k20 k21 k22 k23 k30 k31 k32 k33 k40 k41 k42 k43 hlt5
  go_wp2_with fail
  refine (putT_at d (by omega) w0 _ b5).mono ?_
  rintro e w6 ⟨g6, c6, rfl, o6, r6, b6⟩
  have o5 := own_kept o5 r6
  go_wp2_with (at_builtin; refine app8 _ rfl _ _ rfl w0.heap.size _ ((numB n1 ++ numB n2) ++ numB (bitN h)) rfl o5 ⟨g6, 0, none⟩ _ _ (textB d.data.toList) rfl rfl (o6.cells rfl) ?c3 b6.size ?_)
  case c3 => simp only [List.length_append]; omega
  intro v7 w7 o7 r7
  have b7 : Below w0.heap.size w0 w7 := b6.grown r7 b6.size (fun k hk => (o5.lt k hk).1)
  have o7 := own_mono o7 hw0.size
  have hb : Below w.heap.size w w7 := hw0.trans (b7.mono hw0.size)
  clear o5 o6 r6 r7 b5 b6 b7
  go_wp2
  go_ret
  rw [dUnhide HPK]
  exact ⟨⟨_, rfl, own_len8 o7⟩, hb⟩
/-- spec.EntryPack of what is right. -/
theorem specPack_yes (e : Ent) (h : entP e) (w : World) :
    Calls Try.prog 23 #[e.val] w fun r w' => (∃ v, r = .returned (.tuple #[v, .bool true]) ∧ OwnB w' w.heap.size v (packB e.pl.toNat e.wave.toNat e.hole e.data.data.toList)) ∧ Below w.heap.size w w' := by
  have C1 := dHide fun o => specEntOk_yes e h (w.alloc o)
  obtain ⟨x, v, h0, d⟩ := e
  obtain ⟨hp, v0, v1, hv, hd, hh⟩ := h
  simp only at hp v0 v1 hv hd hh
  obtain ⟨p0, p1, p2, p3, p4⟩ := hp
  obtain ⟨n1, rfl⟩ := Int.eq_ofNat_of_zero_le (show 0 ≤ x by omega)
  obtain ⟨n2, rfl⟩ := Int.eq_ofNat_of_zero_le v0
  have C2 := dHide fun W => l3Pack_any n1 n2 h0 d (by omega) (by omega) (by omega) W
  have hw0 : ∀ o, Below w.heap.size w (w.alloc o) := fun o => (Below.refl _ _).alloc (Nat.le_refl _) o
  simp only [Int.toNat_natCast]
  clear hv hh
  unfold Ent.val at *
  go_enter Try.func23, Try.ntmps23
  go_wp2_with fail
  refine (dUnhide C1 _).mono ?_
  rintro e w1 ⟨rfl, b1⟩
  have k0 := fun i (v : Value) (hc : (w.alloc (Obj.cells #[Value.int .i64 ↑n1, Value.int .i64 ↑n2, Value.bool h0, Value.string d] 25)).cell? ⟨w.heap.size, i, none⟩ = some v) => (b1.cell (p := ⟨w.heap.size, i, none⟩) (dCell_lt hc)).trans hc
  have c0 := k0 0 (.int .i64 n1) (by simp)
  have c1 := k0 1 (.int .i64 n2) (by simp)
  have c2 := k0 2 (.bool h0) (by simp)
  have c3 := k0 3 (.string d) (by simp)
  have hb1 : Below w.heap.size w w1 := (hw0 _).trans (b1.mono (hw0 _).size)
  clear k0 b1 C1 hw0
  go_wp2_with fail
  refine (dUnhide C2 _).mono ?_
  rintro e w2 ⟨⟨v2, rfl, o2⟩, b2⟩
  have o2 := dHide (ownB_of_row (own_mono o2 hb1.size))
  have hb2 : Below w.heap.size w w2 := hb1.trans (b2.mono hb1.size)
  clear C2 b2 c0 c1 c2 c3
  go_wp2
  go_ret2
  exact ⟨⟨_, rfl, dUnhide o2⟩, hb2⟩
/-- spec.EntryPack of what is not right. -/
theorem specPack_no (e : Ent) (hf : e.fits) (h : ¬ entP e) (w : World) :
    Calls Try.prog 23 #[e.val] w fun r w' => (∃ v, r = .returned (.tuple #[v, .bool false]) ∧ OwnB w' w.heap.size v []) ∧ Below w.heap.size w w' := by
  have C1 := dHide fun o => specEntOk_no e hf h (w.alloc o)
  obtain ⟨x, v, h0, d⟩ := e
  have hw0 : ∀ o, Below w.heap.size w (w.alloc o) := fun o => (Below.refl _ _).alloc (Nat.le_refl _) o
  clear hf h
  unfold Ent.val at *
  go_enter Try.func23, Try.ntmps23
  go_wp2_with fail
  refine (dUnhide C1 _).mono ?_
  rintro e w1 ⟨rfl, b1⟩
  have hb1 : Below w.heap.size w w1 := (hw0 _).trans (b1.mono (hw0 _).size)
  clear b1 C1 hw0
  go_wp2
  go_ret2
  exact ⟨⟨_, rfl, by simp, _, _, rfl, by simp, .inl rfl⟩, hb1.alloc hb1.size _⟩
end Go.Proofs.Ytcjchbapeoeaeaa
