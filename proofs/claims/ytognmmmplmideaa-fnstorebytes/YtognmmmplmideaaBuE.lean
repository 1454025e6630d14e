/- Several texts in one: EntB, RetP, StB, BoxP, StC, ApP. -/
import Derived.Test.YtognmmmplmideaaBuD
import Derived.Test.YtognmmmplmideaaBuC
import Derived.Deep.RegionHeld3
import Derived.Test.YtognmmmplmideaaBuA
import Derived.ArgAppend
import Derived.Maps.RangeWalk
namespace Go.Proofs.Ytognmmmplmideaa
open Go.ChangeShapes Go.WideShapes Go.ChangeAt Go.RowKit
set_option maxRecDepth 100000
set_option linter.unusedVariables false

theorem bytes_loop_len (b : ByteArray) (i : Nat) (r : List UInt8) : (ByteArray.toList.loop b i r).length = (b.size - i) + r.length := by
  induction h : b.size - i generalizing i r with
  | zero =>
    rw [ByteArray.toList.loop]
    have : ¬ i < b.size := by omega
    simp [this]
  | succ n ih =>
    rw [ByteArray.toList.loop]
    have : i < b.size := by omega
    simp [this]
    rw [ih (i+1) _ (by omega)]
    simp
    omega
theorem bytes_ne (d : ByteArray) (h : d.size ≠ 0) : d.toList.isEmpty = false := by
  have e : d.toList.length = d.size := by rw [ByteArray.toList, bytes_loop_len]; simp
  cases hd : d.toList with
  | nil => rw [hd] at e; simp at e; omega
  | cons a l => rfl
theorem bytes_nil (d : ByteArray) (h : d.size = 0) : d = ⟨#[]⟩ := by
  obtain ⟨a⟩ := d
  have : a.size = 0 := h
  congr 1
  exact Array.eq_empty_of_size_eq_zero this
theorem specEntOk_yes (e : Ent) (h : entP e) (w : World) :
    Calls Try.prog 88 #[e.val] w fun r w' => r = .returned (.bool true) ∧ Below w.heap.size w w' := by
  obtain ⟨x, v, h0, d⟩ := e
  obtain ⟨hp, v0, v1, hv, hd, hh⟩ := h
  simp only at hp v0 v1 hv hd hh
  rcases Int.lt_or_le 0 v with hv0 | hv0
  · have hv' := hv hv0
    cases h0 with
    | false => exact specEntOk_w1 x v d hp hv0 v1 hv' (by omega) w
    | true =>
      obtain rfl := bytes_nil d (hh rfl).2
      exact specEntOk_w2 x v hp hv0 v1 hv' w
  · obtain rfl : v = 0 := by omega
    cases h0 with
    | false => exact specEntOk_w0f x d hp (by omega) w
    | true => exact absurd (hh rfl).1 (by omega)
theorem specEntOk_no (e : Ent) (hf : e.fits) (h : ¬ entP e) (w : World) :
    Calls Try.prog 88 #[e.val] w fun r w' => r = .returned (.bool false) ∧ Below w.heap.size w w' := by
  obtain ⟨x, v, h0, d⟩ := e
  obtain ⟨f1, f2, f3, f4, f5⟩ := hf
  simp only at f1 f2 f3 f4 f5
  unfold entP at h
  simp only at h
  by_cases hp : isPl x
  · by_cases hr : v < 0 ∨ 30 < v
    · exact specEntOk_no2 x v h0 d hp hr w
    · have r0 : 0 ≤ v := by omega
      have r1 : v ≤ 30 := by omega
      by_cases hd : (40 : Int) < (d.size : Int)
      · rcases Int.lt_or_le 0 v with hv0 | hv0
        · by_cases hv : v ≤ x / 4294967296
          · exact specEntOk_no3 x v h0 d hp hv0 r1 hv w
          · exact specEntOk_no5 x v h0 d hp hv0 r1 (by omega) hd w
        · obtain rfl : v = 0 := by omega
          exact specEntOk_no4 x h0 d hp hd w
      · rcases Int.lt_or_le 0 v with hv0 | hv0
        · by_cases hv : v ≤ x / 4294967296
          · exact specEntOk_no3 x v h0 d hp hv0 r1 hv w
          · cases h0 with
            | false => exact absurd ⟨hp, r0, r1, fun _ => by omega, by omega, fun h => by cases h⟩ h
            | true =>
              refine specEntOk_w3 x v d hp hv0 r1 (by omega) (by omega) (bytes_ne d fun h1 => ?_) w
              exact h ⟨hp, r0, r1, fun _ => by omega, by omega, fun _ => ⟨hv0, h1⟩⟩
        · obtain rfl : v = 0 := by omega
          cases h0 with
          | false => exact absurd ⟨hp, r0, r1, fun h => by omega, by omega, fun h => by cases h⟩ h
          | true => exact specEntOk_w0t x d hp (by omega) w
  · exact specEntOk_no1 x v h0 d f2 hp w
/-- 1 or 0. -/
def bitN (h : Bool) : Nat := if h then 1 else 0
theorem l3Bit_any (h : Bool) (w : World) : Calls Try.prog 77 #[.bool h] w fun e w' => e = .returned (.int .i64 (bitN h : Int)) ∧ w' = w := by
  cases h
  · go_enter Try.func77, Try.ntmps77
    go_wp2
    go_ret
    exact ⟨rfl, rfl⟩
  · go_enter Try.func77, Try.ntmps77
    go_wp2
    go_ret
    exact ⟨rfl, rfl⟩
/-- An entry's bytes. -/
def packB (n1 n2 : Nat) (h : Bool) (d : List UInt8) : List UInt8 := numB n1 ++ numB n2 ++ numB (bitN h) ++ textB d
theorem numB_pos (x : Nat) : 0 < (numB x).length := by
  unfold numB
  by_cases h : x < 128
  · rw [numF_small h]; simp
  · rw [numF_big h]; simp
/-- append on bytes, as one step of a region that draws. -/
theorem step_app8 {ops : Array Oper} {o : Oper} {a : Act} {w : World} {K : Act → World → Prop} {Q : Exit → Act → World → Prop} {E : Prop}
    (hg : o.guard = none) (s x : Operand) (hop : o.op = .call { callee := .builtin .append, args := #[s, x], argTypes := #[22, 22] })
    (base : Nat) (v : Value) (bs : List UInt8) (hs : a.eval s = v) (hown : w.ownsRow base 5 1 v bs.length (bcells bs))
    (g m c : Nat) (cs : List UInt8) (hx : a.eval x = .slice (some ⟨g, 0, none⟩) m c) (hsrc : w.ownsRow base 5 1 (.slice (some ⟨g, 0, none⟩) m c) cs.length (bcells cs))
    (hb : bs.length + cs.length ≤ 1099511627776) (hbase : base ≤ w.heap.size)
    (h : ∀ v' w', w'.ownsRow base 5 1 v' (bs ++ cs).length (bcells (bs ++ cs)) → w.grownBy w' v.ownBlock → K (a.put o.dst v') w') :
    if Region.wanted o (yielded ops a.tmps) = true then Oper.wp Try.prog o a w K Q else E := by
  obtain ⟨i0, hi, hz0, hz1, hz2⟩ := info_parts info8a
  have hm : maxLen = 9223372036854775807 := rfl
  have hlen : cs.length = m := by
    rcases hsrc.2 with ⟨h0, _⟩ | ⟨g', cap, cur, h0, _⟩
    · cases h0
    · cases h0; rfl
  subst hlen
  have hw : Region.wanted o (yielded ops a.tmps) = true := by simp [Region.wanted, hg]
  rw [if_pos hw]
  obtain ⟨v', w', hrun, h1, h2, _⟩ := run_append_own (P := Try.prog) w base 22 o.type 5 i0 (.int .u8 0) 1 1 Try.underlying22 hi hz0 hz1 hz2 rfl (by decide) v bs.length (bcells bs) hown ⟨g, 0, none⟩ cs.length c (bcells cs) (by simp [bcells]) (hsrc.cells rfl) (cells_one _) (by omega) (by omega) hbase
  have h3 := h v' w' (by
    have e : bcells (bs ++ cs) = bcells bs ++ bcells cs := by simp [bcells]
    rw [e, List.length_append]; exact h1) h2
  unfold Oper.wp
  simp [execOp, hop, resolve, invoke, builtin, hs, hx, hrun, Result.andThen]
  exact h3
theorem own_mono {w : World} {B B' n : Nat} {v : Value} {l : List Value} (h : w.ownsRow B 5 1 v n l) (hB : B' ≤ B) : w.ownsRow B' 5 1 v n l := by
  refine ⟨h.1, ?_⟩
  rcases h.2 with h0 | ⟨g, cap, cur, h1, h2, h3⟩
  · exact .inl h0
  · exact .inr ⟨g, cap, cur, h1, by omega, h3⟩
theorem own_some {w : World} {B n : Nat} {v : Value} {l : List Value} (h : w.ownsRow B 5 1 v n l) (hn : 0 < n) : ∃ g cap, v = .slice (some ⟨g, 0, none⟩) n cap := by
  rcases h.2 with ⟨_, h0⟩ | ⟨g, cap, cur, h1, h2, h3⟩
  · omega
  · exact ⟨g, cap, h1⟩
theorem Below.row {w w' : World} (h : Below w.heap.size w w') (row : Option Nat) : w.grownBy w' row := ⟨h.os, h.tape, h.output, h.size, fun k hk _ => h.block k hk⟩
theorem own_kept {w w' : World} {B n : Nat} {v : Value} {l : List Value} (h : w.ownsRow B 5 1 v n l) (hg : w.grownBy w' none) : w'.ownsRow B 5 1 v n l :=
  h.kept hg (by cases v.ownBlock <;> simp)
theorem own_len8 {w : World} {B n : Nat} {v : Value} {l : List UInt8} (h : w.ownsRow B 5 1 v n (bcells l)) : w.ownsRow B 5 1 v l.length (bcells l) := by
  have e : l.length = n := by have := h.1; simpa [bcells] using this
  rw [e]; exact h
/-- spec.PutNum in whatever later world. -/
theorem put_at (n : Nat) (h : n ≤ 9223372036854775807) (w0 W : World) (hb : Below w0.heap.size w0 W) :
    Calls Try.prog 38 #[.int .i64 (n : Int)] W fun e w' => ∃ g cap, e = .returned (.slice (some ⟨g, 0, none⟩) (numB n).length cap) ∧ w'.ownsRow w0.heap.size 5 1 (.slice (some ⟨g, 0, none⟩) (numB n).length cap) (numB n).length (bcells (numB n)) ∧ W.grownBy w' none ∧ Below w0.heap.size w0 w' := by
  refine (specPut_yes n h W).mono fun e w' ⟨⟨v, h1, h2⟩, h3⟩ => ?_
  obtain ⟨g, cap, rfl⟩ := own_some h2 (numB_pos n)
  exact ⟨g, cap, h1, own_mono h2 hb.size, Below.row h3 none, hb.trans (h3.mono hb.size)⟩
/-- spec.PutText in whatever later world. -/
theorem putT_at (s : ByteArray) (h : s.size ≤ 1099511627776) (w0 W : World) (hb : Below w0.heap.size w0 W) :
    Calls Try.prog 78 #[.string s] W fun e w' => ∃ g cap, e = .returned (.slice (some ⟨g, 0, none⟩) (textB s.data.toList).length cap) ∧ w'.ownsRow w0.heap.size 5 1 (.slice (some ⟨g, 0, none⟩) (textB s.data.toList).length cap) (textB s.data.toList).length (bcells (textB s.data.toList)) ∧ W.grownBy w' none ∧ Below w0.heap.size w0 w' := by
  refine (specPutText_any s h W).mono fun e w' ⟨⟨v, h1, h2⟩, h3⟩ => ?_
  obtain ⟨g, cap, rfl⟩ := own_some h2 (by rw [textB, List.length_append]; have := numB_pos s.data.toList.length; omega)
  exact ⟨g, cap, h1, own_mono h2 hb.size, Below.row h3 none, hb.trans (h3.mono hb.size)⟩
set_option maxHeartbeats 1000000 in
theorem l3Pack_any (n1 n2 : Nat) (h : Bool) (d : ByteArray) (h1 : n1 ≤ 9223372036854775807) (h2 : n2 ≤ 9223372036854775807) (hd : d.size ≤ 1048576) (w : World) :
    Calls Try.prog 39 #[.agg #[.int .i64 (n1 : Int), .int .i64 (n2 : Int), .bool h, .string d]] w fun e w' => (∃ v, e = .returned v ∧ w'.ownsRow w.heap.size 5 1 v (packB n1 n2 h d.data.toList).length (bcells (packB n1 n2 h d.data.toList))) ∧ Below w.heap.size w w' := by
  have l1 := numB_len n1
  have l2 := numB_len n2
  have l3 := numB_len (bitN h)
  have l4 := numB_len d.data.toList.length
  have hsz : d.data.toList.length = d.size := by rw [← Lib.size_eq]
  have l5 : (textB d.data.toList).length ≤ 1048576 + 9 := by rw [textB, List.length_append]; omega
  have hbit : bitN h ≤ 9223372036854775807 := by cases h <;> decide
  have hpk : packB n1 n2 h d.data.toList = numB n1 ++ (numB n2 ++ (numB (bitN h) ++ textB d.data.toList)) := by simp only [packB, List.append_assoc]
  have HPK := dHide hpk
  go_enter Try.func39, Try.ntmps39
  go_wp2
  have c0 : (w.alloc (Obj.cells #[Value.int .i64 ↑n1, Value.int .i64 ↑n2, Value.bool h, Value.string d] 66)).cell? ⟨w.heap.size, 0, none⟩ = some (.int .i64 n1) := by simp
  have c1 : (w.alloc (Obj.cells #[Value.int .i64 ↑n1, Value.int .i64 ↑n2, Value.bool h, Value.string d] 66)).cell? ⟨w.heap.size, 1, none⟩ = some (.int .i64 n2) := by simp
  have c2 : (w.alloc (Obj.cells #[Value.int .i64 ↑n1, Value.int .i64 ↑n2, Value.bool h, Value.string d] 66)).cell? ⟨w.heap.size, 2, none⟩ = some (.bool h) := by simp
  have c3 : (w.alloc (Obj.cells #[Value.int .i64 ↑n1, Value.int .i64 ↑n2, Value.bool h, Value.string d] 66)).cell? ⟨w.heap.size, 3, none⟩ = some (.string d) := by simp
  have hw0 : Below w.heap.size w (w.alloc (Obj.cells #[Value.int .i64 ↑n1, Value.int .i64 ↑n2, Value.bool h, Value.string d] 66)) := (Below.refl _ _).alloc (Nat.le_refl _) _
  clear hpk hsz
  generalize w.alloc (Obj.cells #[Value.int .i64 ↑n1, Value.int .i64 ↑n2, Value.bool h, Value.string d] 66) = w0 at *
  have hC : ∀ W, Below w0.heap.size w0 W → W.cell? ⟨w.heap.size, 0, none⟩ = some (.int .i64 n1) ∧ W.cell? ⟨w.heap.size, 1, none⟩ = some (.int .i64 n2) ∧ W.cell? ⟨w.heap.size, 2, none⟩ = some (.bool h) ∧ W.cell? ⟨w.heap.size, 3, none⟩ = some (.string d) := fun W hb =>
    ⟨(hb.cell (p := ⟨w.heap.size, 0, none⟩) (dCell_lt c0)).trans c0, (hb.cell (p := ⟨w.heap.size, 1, none⟩) (dCell_lt c1)).trans c1, (hb.cell (p := ⟨w.heap.size, 2, none⟩) (dCell_lt c2)).trans c2, (hb.cell (p := ⟨w.heap.size, 3, none⟩) (dCell_lt c3)).trans c3⟩
  have HC := dHide hC
  have hbd : Below w0.heap.size w0 w0.drew := (Below.refl _ _).drew
  clear hC
  go_region_held3 (fun W => W.cell? ⟨w.heap.size, 0, none⟩ = some (.int .i64 n1) ∧ W.cell? ⟨w.heap.size, 1, none⟩ = some (.int .i64 n2) ∧ W.cell? ⟨w.heap.size, 2, none⟩ = some (.bool h)) (go_keep)
    (first
      | (go_at_call_of 38 (Value.int .i64 (n1 : Int)); refine (put_at n1 h1 w0 _ (by assumption)).mono ?_; rintro e w1 ⟨g1, c1, rfl, o1, r1, b1⟩; obtain ⟨k10, k11, k12, k13⟩ := dUnhide HC w1 b1)
      | (go_at_call_of 38 (Value.int .i64 (n2 : Int)); refine (put_at n2 h2 w0 _ (by assumption)).mono ?_; rintro e w2 ⟨g2, c2, rfl, o2, r2, b2⟩; obtain ⟨k20, k21, k22, k23⟩ := dUnhide HC w2 b2; have o1 := own_kept o1 r2)
      | (refine step_app8 rfl _ _ rfl w0.heap.size _ (numB n1) rfl o1 _ _ _ (numB n2) rfl o2 (by omega) b2.size ?_; intro v3 w3 o3 r3; have b3 := b2.grown r3 b2.size (fun k hk => (o1.lt k hk).1); obtain ⟨k30, k31, k32, k33⟩ := dUnhide HC w3 b3)
      | (go_at_call 77; refine (l3Bit_any h _).mono ?_; rintro e w' ⟨rfl, rfl⟩)
      | (go_at_call_of 38 (Value.int .i64 (bitN h : Int)); refine (put_at (bitN h) hbit w0 _ (by assumption)).mono ?_; rintro e w4 ⟨g4, c4, rfl, o4, r4, b4⟩; obtain ⟨k40, k41, k42, k43⟩ := dUnhide HC w4 b4; have o3 := own_kept o3 r4)
      | (refine step_app8 rfl _ _ rfl w0.heap.size _ (numB n1 ++ numB n2) rfl o3 _ _ _ (numB (bitN h)) rfl o4 (by simp only [List.length_append]; omega) b4.size ?_; intro v5 w5 o5 r5; have b5 := b4.grown r5 b4.size (fun k hk => (o3.lt k hk).1); obtain ⟨k50, k51, k52, k53⟩ := dUnhide HC w5 b5))
  have hlt5 := o5.lt
  clear o1 o2 o3 o4 r1 r2 r3 r4 r5 b1 b2 b3 b4 k10 k11 k12 k13 k20 k21 k22 k23 k30 k31 k32 k33 k40 k41 k42 k43 hlt5
  go_wp2_with fail
  refine (putT_at d (by omega) w0 _ b5).mono ?_
  rintro e w6 ⟨g6, c6, rfl, o6, r6, b6⟩
  have o5 := own_kept o5 r6
  go_wp2_with (at_builtin; refine app8 _ rfl _ _ rfl w0.heap.size _ ((numB n1 ++ numB n2) ++ numB (bitN h)) rfl o5 ⟨g6, 0, none⟩ _ _ (textB d.data.toList) rfl rfl (o6.cells rfl) ?c3 b6.size ?_)
  case c3 => simp only [List.length_append]; omega
  intro v7 w7 o7 r7
  have b7 : Below w0.heap.size w0 w7 := b6.grown r7 b6.size (fun k hk => (o5.lt k hk).1)
  have o7 := own_mono o7 hw0.size
  have hb : Below w.heap.size w w7 := hw0.trans (b7.mono hw0.size)
  clear o5 o6 r6 r7 b5 b6 b7
  go_wp2
  go_ret
  rw [dUnhide HPK]
  exact ⟨⟨_, rfl, own_len8 o7⟩, hb⟩
end Go.Proofs.Ytognmmmplmideaa
namespace Go.Proofs.Ytognmmmplmideaa
open Go.ChangeShapes Go.WideShapes Go.ChangeAt Go.RowKit
set_option linter.unusedVariables false

/-- The answer is whether p. -/
def RetB (p : Prop) (e : Ending) : Prop := ∃ b : Bool, e = .returned (.bool b) ∧ (b = true ↔ p)
theorem RetB.yes {p : Prop} (h : p) : RetB p (.returned (.bool true)) := ⟨true, rfl, fun _ => h, fun _ => rfl⟩
theorem RetB.no {p : Prop} (h : ¬ p) : RetB p (.returned (.bool false)) := ⟨false, rfl, (fun h => by cases h), fun h' => absurd h' h⟩
/-- The world is the first one behind some draws. -/
def Drew (w w' : World) : Prop := ∃ n, w' = w.drewN n
theorem Drew.refl (w : World) : Drew w w := ⟨0, rfl⟩
theorem Drew.drewN {w w' : World} (h : Drew w w') (n : Nat) : Drew w (w'.drewN n) := by
  obtain ⟨m, rfl⟩ := h
  exact ⟨_, World.drewN_drewN _ _ _⟩
theorem Drew.cell {w w' : World} (h : Drew w w') (a : Addr) : w'.cell? a = w.cell? a := by
  obtain ⟨m, rfl⟩ := h
  simp
theorem Drew.below {w w' : World} (h : Drew w w') : Below w.heap.size w w' := by
  obtain ⟨m, rfl⟩ := h
  exact below_drewN (Below.refl _ _) _
theorem RetB.of_yes {p : Prop} {e : Ending} (h : RetB p e) (hp : p) : e = .returned (.bool true) := by
  obtain ⟨b, rfl, hb⟩ := h
  rw [hb.2 hp]
theorem RetB.of_no {p : Prop} {e : Ending} (h : RetB p e) (hp : ¬ p) : e = .returned (.bool false) := by
  obtain ⟨b, rfl, hb⟩ := h
  cases b
  · rfl
  · exact absurd (hb.1 rfl) hp
end Go.Proofs.Ytognmmmplmideaa
namespace Go.Proofs.Ytognmmmplmideaa
open Go.ChangeShapes Go.WideShapes Go.ChangeAt Go.RowKit
set_option linter.unusedVariables false
set_option maxRecDepth 100000

theorem specEntOk_any (e : Ent) (hf : e.fits) (w : World) : Calls Try.prog 88 #[e.val] w fun r w' => RetB (entP e) r ∧ Below w.heap.size w w' := by
  by_cases h : entP e
  · exact (specEntOk_yes e h w).mono fun r w' ⟨h1, h2⟩ => ⟨h1 ▸ RetB.yes h, h2⟩
  · exact (specEntOk_no e hf h w).mono fun r w' ⟨h1, h2⟩ => ⟨h1 ▸ RetB.no h, h2⟩
set_option maxHeartbeats 2000000 in
theorem l6List_any (v : Value) (es : List Ent) (n : Nat) (w : World) (hv : Rw 4 Ent.cl w v es) (hf : fitE es) :
    Calls Try.prog 75 #[v, .int .i64 (n : Int)] w fun e w' => RetB (listP es n) e ∧ Below w.heap.size w w' := by
  have HV := dHide fun W (hb : Below w.heap.size w W) => hv.below hb
  have HF := dHide hf
  obtain ⟨h0, a, cap, rfl, -, -⟩ := hv
  clear hf
  by_cases hn : (n : Int) < (es.length : Int)
  · have hno : Hid (¬ listP es n) := fun h => by have := h.1; omega
    clear HV HF
    go_enter Try.func75, Try.ntmps75
    go_wp2
    go_ret
    exact ⟨RetB.no (dUnhide hno), Below.refl _ _⟩
  · go_enter Try.func75, Try.ntmps75
    go_wp2
    go_loopw [5] (fun x wr => ∃ k : Nat, x = .int .i64 (k : Int) ∧ k ≤ es.length ∧ Hid (∀ i (h : i < es.length), i < k → entP es[i]) ∧ Below w.heap.size w wr) (fun x _ => es.length - (intOf x).toNat)
    case atStart => exact ⟨0, rfl, Nat.zero_le _, (fun i h h' => by omega), Below.refl _ _⟩
    case round =>
      obtain ⟨k, rfl, hk, hinv, hb⟩ := hrel
      by_cases hlt : (k : Int) < (es.length : Int)
      · have hkl : k < es.length := by omega
        obtain ⟨b, off, rfl, hc⟩ := (dUnhide HV wr hb).ent hkl
        obtain ⟨k0, k1, k2, k3⟩ := hc k hkl
        have CE := dHide (specEntOk_any es[k] (dUnhide HF _ (List.getElem_mem hkl)) wr)
        have hst : Hid (entP es[k] → ∀ i (h : i < es.length), i < k + 1 → entP es[i]) := fun he i h h' => by
          rcases Nat.lt_or_ge i k with hlt' | hge
          · exact dUnhide hinv i h hlt'
          · obtain rfl : i = k := by omega
            exact he
        have hno : Hid (¬ entP es[k] → ¬ listP es n) := fun he h => he (h.2 _ (List.getElem_mem hkl))
        generalize es[k] = e at *
        obtain ⟨x, wv, ho, d⟩ := e
        unfold Ent.val at CE
        simp only at *
        clear hc hinv
        go_wp2_with fail
        refine (dUnhide CE).mono ?_
        rintro r w1 ⟨⟨bb, rfl, hbb⟩, b1⟩
        have hb1 := belowThen hb b1
        clear b1 CE k0 k1 k2 k3 hb
        cases bb
        · have R := dHide (dUnhide hno fun h => by have := hbb.2 h; cases this)
          clear hbb
          go_wp2
          go_ret
          exact ⟨RetB.no (dUnhide R), hb1⟩
        · have R := dHide (dUnhide hst (hbb.1 rfl))
          clear hbb
          go_wp2
          go_roundw
          case rel => exact ⟨k + 1, by go_num, by omega, R, hb1⟩
          case measure => simp [intOf]; omega
      · have hyes : Hid (listP es n) := ⟨by omega, fun e he => by
          obtain ⟨i, hi, rfl⟩ := List.getElem_of_mem he
          exact dUnhide hinv i hi (by omega)⟩
        clear hinv HV HF
        go_wp2
        go_ret
        exact ⟨RetB.yes (dUnhide hyes), hb⟩
set_option maxHeartbeats 2000000 in
theorem l6Asc_any (v : Value) (es : List Ent) (w : World) (hv : Rw 4 Ent.cl w v es) :
    Calls Try.prog 76 #[v] w fun e w' => RetB (ascE es) e ∧ Drew w w' := by
  have HV := dHide hv
  obtain ⟨h0, a, cap, rfl, -, -⟩ := hv
  go_enter Try.func76, Try.ntmps76
  go_wp2
  go_loopw [3] (fun x wr => ∃ k : Nat, x = .int .i64 ((k + 1 : Nat) : Int) ∧ (k ≤ es.length) ∧ Hid (∀ i (h : i + 1 < es.length), i < k → es[i].pl < es[i + 1].pl) ∧ Drew w wr) (fun x _ => es.length + 1 - (intOf x).toNat)
  case atStart => exact ⟨0, rfl, Nat.zero_le _, (fun i h h' => by omega), Drew.refl _⟩
  case round =>
    obtain ⟨k, rfl, hk, hinv, hdr⟩ := hrel
    by_cases hlt : ((k + 1 : Nat) : Int) < (es.length : Int)
    · have hkl : k + 1 < es.length := by omega
      obtain ⟨b, off, rfl, hc⟩ := (dUnhide HV).ent hkl
      have k0 : wr.cell? ⟨b, off + k * 4, none⟩ = some (.int .i64 es[k].pl) := (hdr.cell _).trans (hc k (by omega)).1
      have k1 : wr.cell? ⟨b, off + (k + 1) * 4, none⟩ = some (.int .i64 es[k + 1].pl) := (hdr.cell _).trans (hc (k + 1) hkl).1
      have hst : Hid (es[k].pl < es[k + 1].pl → ∀ i (h : i + 1 < es.length), i < k + 1 → es[i].pl < es[i + 1].pl) := fun he i h h' => by
        rcases Nat.lt_or_ge i k with hlt' | hge
        · exact dUnhide hinv i h hlt'
        · obtain rfl : i = k := by omega
          exact he
      have hno : Hid (¬ es[k].pl < es[k + 1].pl → ¬ ascE es) := fun he h => he (h k hkl)
      generalize es[k].pl = x at *
      generalize es[k + 1].pl = y at *
      have t1 : (0 : Int) ≤ (k : Int) := by omega
      have t2 : (k : Int) < (es.length : Int) := by omega
      have t3 : IntKind.i64.wrap (((k + 1 : Nat) : Int) - 1) = (k : Int) := by rw [IntKind.wrap_i64]; omega
      have t4 : IntKind.i64.wrap ((k : Int) + 1 - 1) = (k : Int) := by rw [IntKind.wrap_i64]; omega
      clear hc hinv HV
      by_cases hxy : y ≤ x
      · have hd : decide (y ≤ x) = true := decide_eq_true hxy
        have R := dHide (dUnhide hno (by omega))
        go_wp2
        go_quiet (fail)
        go_wp2
        go_ret
        exact ⟨RetB.no (dUnhide R), hdr.drewN _⟩
      · have hd : decide (y ≤ x) = false := decide_eq_false hxy
        have R := dHide (dUnhide hst (by omega))
        go_wp2
        go_quiet (fail)
        go_wp2
        go_roundw
        case rel => exact ⟨k + 1, by go_num, by omega, R, hdr.drewN _⟩
        case measure => simp [intOf]; omega
    · have hyes : Hid (ascE es) := fun i h => dUnhide hinv i h (by omega)
      clear hinv HV
      go_wp2
      go_ret
      exact ⟨RetB.yes (dUnhide hyes), hdr⟩
end Go.Proofs.Ytognmmmplmideaa
namespace Go.Proofs.Ytognmmmplmideaa
open Go.ChangeShapes Go.WideShapes Go.ChangeAt Go.RowKit
set_option linter.unusedVariables false

/-- The cells of block b. -/
def Bx (w : World) (b : Nat) (vs : List Value) : Prop := ∀ i v, vs[i]? = some v → w.cell? ⟨b, i, none⟩ = some v
theorem Bx.below {w w' : World} {b : Nat} {vs : List Value} (h : Bx w b vs) (hb : Below w.heap.size w w') : Bx w' b vs := fun i v hv => (hb.cell (p := ⟨b, i, none⟩) (dCell_lt (h i v hv))).trans (h i v hv)
theorem Bx.new (w : World) (vs : List Value) (T : TypeId) : Bx (w.alloc (.cells vs.toArray T)) w.heap.size vs := fun i v hv => by
  have := MapKept.heap_alloc w (.cells vs.toArray T)
  simp only [World.cell?, this.1]
  simpa using hv
/-- .. and may be written; from block B on. -/
def BxZ (w : World) (B b : Nat) (vs : List Value) : Prop := B ≤ b ∧ ∀ i v, vs[i]? = some v → w.cell? ⟨b, i, none⟩ = some v ∧ w.frozen? ⟨b, i, none⟩ = false
theorem BxZ.bx {w : World} {B b : Nat} {vs : List Value} (h : BxZ w B b vs) : Bx w b vs := fun i v hv => (h.2 i v hv).1
theorem BxZ.below {w w' : World} {B b : Nat} {vs : List Value} (h : BxZ w B b vs) (hb : Below w.heap.size w w') : BxZ w' B b vs :=
  ⟨h.1, fun i v hv => ⟨(hb.cell (p := ⟨b, i, none⟩) (dCell_lt (h.2 i v hv).1)).trans (h.2 i v hv).1, (hb.frozen (p := ⟨b, i, none⟩) (dCell_lt (h.2 i v hv).1)).trans (h.2 i v hv).2⟩⟩
theorem BxZ.new (w : World) (vs : List Value) (T : TypeId) {B : Nat} (hB : B ≤ w.heap.size) : BxZ (w.alloc (.cells vs.toArray T)) B w.heap.size vs := by
  refine ⟨hB, fun i v hv => ⟨Bx.new w vs T i v hv, ?_⟩⟩
  have := MapKept.heap_alloc w (.cells vs.toArray T)
  simp only [World.frozen?, this.1]
  simp
theorem BxZ.lt {w : World} {B b : Nat} {v : Value} {vs : List Value} (h : BxZ w B b (v :: vs)) : b < w.heap.size := dCell_lt (h.2 0 v rfl).1
theorem BxZ.put {w : World} {B b : Nat} {vs : List Value} (h : BxZ w B b vs) (i : Nat) (u : Value) : BxZ (w.setCell ⟨b, i, none⟩ u) B b (vs.set i u) := by
  refine ⟨h.1, fun j v hv => ?_⟩
  by_cases e : j = i
  · subst e
    have hj : j < vs.length := by
      rcases Nat.lt_or_ge j vs.length with h' | h'
      · exact h'
      · rw [List.getElem?_eq_none (by simpa using h')] at hv
        cases hv
    rw [List.getElem?_set_self hj] at hv
    cases hv
    obtain ⟨h1, h2⟩ := h.2 j vs[j] (List.getElem?_eq_getElem hj)
    exact ⟨World.cell?_setCell_same _ _ _ h1, (World.frozen?_setCell _ _ _ _).trans h2⟩
  · rw [List.getElem?_set_ne (by omega)] at hv
    obtain ⟨h1, h2⟩ := h.2 j v hv
    exact ⟨set_other h1 (by omega), (World.frozen?_setCell _ _ _ _).trans h2⟩
theorem BxZ.far {w : World} {B b b' o : Nat} {vs : List Value} (h : BxZ w B b vs) (hb : b ≠ b') (u : Value) : BxZ (w.setCell ⟨b', o, none⟩ u) B b vs :=
  ⟨h.1, fun i v hv => ⟨set_other (h.2 i v hv).1 (.inl hb), (World.frozen?_setCell _ _ _ _).trans (h.2 i v hv).2⟩⟩
theorem BxZ.drawn {w w' : World} {bk B b : Nat} {vs : List Value} (h : BxZ w B b vs) (hd : Drawn bk w w') (hb : b ≠ bk) : BxZ w' B b vs :=
  ⟨h.1, fun i v hv => ⟨hd.cell (h.2 i v hv).1 hb, (hd.frozen hb (dCell_lt (h.2 i v hv).1)).trans (h.2 i v hv).2⟩⟩
theorem Bx.drawn {w w' : World} {bk b : Nat} {vs : List Value} (h : Bx w b vs) (hd : Drawn bk w w') (hb : b ≠ bk) : Bx w' b vs := fun i v hv => hd.cell (h i v hv) hb
theorem BxZ.grown {w w' : World} {B b : Nat} {vs : List Value} {row : Option Nat} (h : BxZ w B b vs) (g : w.grownBy w' row) (hn : row ≠ some b) : BxZ w' B b vs :=
  ⟨h.1, fun i v hv => by
    have e := g.block b (dCell_lt (h.2 i v hv).1) (fun e => hn e.symm)
    exact ⟨(World.cell?_of_block (a := ⟨b, i, none⟩) e).trans (h.2 i v hv).1, (World.frozen?_of_block (a := ⟨b, i, none⟩) e).trans (h.2 i v hv).2⟩⟩
theorem Bx.grown {w w' : World} {b : Nat} {vs : List Value} {row : Option Nat} (h : Bx w b vs) (g : w.grownBy w' row) (hn : row ≠ some b) : Bx w' b vs := fun i v hv =>
  (World.cell?_of_block (a := ⟨b, i, none⟩) (g.block b (dCell_lt (h i v hv)) (fun e => hn e.symm))).trans (h i v hv)
theorem BxZ.drew' {w : World} {B b : Nat} {vs : List Value} (h : BxZ w B b vs) : BxZ w.drew B b vs := h
end Go.Proofs.Ytognmmmplmideaa
namespace Go.Proofs.Ytognmmmplmideaa
open Go.ChangeShapes Go.WideShapes Go.ChangeAt Go.RowKit
set_option linter.unusedVariables false
set_option maxRecDepth 100000

/-- A store of ints. -/
def fitS (s : St) : Prop := fitE s.kept ∧ fitE s.late ∧ -9223372036854775808 ≤ s.lock ∧ s.lock ≤ 9223372036854775807
/-- A store in memory. -/
def Rs (w : World) (v : Value) (s : St) : Prop := ∃ kv lv, v = .agg #[kv, lv, .int .i64 s.lock] ∧ Rw 4 Ent.cl w kv s.kept ∧ Rw 4 Ent.cl w lv s.late
theorem Rs.below {w w' : World} {v : Value} {s : St} (h : Rs w v s) (hb : Below w.heap.size w w') : Rs w' v s := by
  obtain ⟨kv, lv, h1, h2, h3⟩ := h
  exact ⟨kv, lv, h1, h2.below hb, h3.below hb⟩
set_option maxHeartbeats 2000000 in
theorem specStoreOk_any (v : Value) (s : St) (w : World) (hv : Rs w v s) (hf : fitS s) :
    Calls Try.prog 37 #[v] w fun e w' => RetB (stP s) e ∧ Below w.heap.size w w' := by
  obtain ⟨kv, lv, rfl, hk, hl⟩ := hv
  obtain ⟨f1, f2, f3, f4⟩ := hf
  have C1 := dHide fun W (hb : Below w.heap.size w W) => l6List_any kv s.kept 200 W (hk.below hb) f1
  have C2 := dHide fun W (hb : Below w.heap.size w W) => l6List_any lv s.late 20 W (hl.below hb) f2
  have C3 := dHide fun W (hb : Below w.heap.size w W) => l6Asc_any kv s.kept W (hk.below hb)
  obtain ⟨-, ka, kc, rfl, -, -⟩ := hk
  obtain ⟨-, la, lc, rfl, -, -⟩ := hl
  have SD : Hid (stP s ↔ listP s.kept 200 ∧ listP s.late 20 ∧ ascE s.kept ∧ 0 ≤ s.lock ∧ s.lock ≤ 30) := Iff.rfl
  generalize stP s = P at *
  generalize s.lock = sl at *
  have X0 := Bx.new w [.slice ka s.kept.length kc, .slice la s.late.length lc, .int .i64 sl] 26
  have B0 : Below w.heap.size w (w.alloc (.cells #[.slice ka s.kept.length kc, .slice la s.late.length lc, .int .i64 sl] 26)) := (Below.refl _ _).alloc (Nat.le_refl _) _
  have HX0 := dHide X0
  clear X0
  go_enter Try.func37, Try.ntmps37
  go_wp2_with fail
  refine (dUnhide C1 _ B0).mono ?_
  rintro e w1 ⟨⟨b1, rfl, h1⟩, bl1⟩
  have B1 := belowThen B0 bl1
  have HX1 := dHide ((dUnhide HX0).below bl1)
  have k0 := dUnhide HX1 0 _ rfl
  have k1 := dUnhide HX1 1 _ rfl
  have k2 := dUnhide HX1 2 _ rfl
  clear B0 bl1 HX0 C1
  cases b1
  · have R : RetB P (.returned (.bool false)) := RetB.no fun h => by have := h1.2 ((dUnhide SD).1 h).1; cases this
    clear h1
    go_wp2
    go_ret
    exact ⟨R, B1⟩
  have H1 := dHide (h1.1 rfl)
  clear h1
  go_wp2_with fail
  refine (dUnhide C2 _ B1).mono ?_
  rintro e w2 ⟨⟨b2, rfl, h2⟩, bl2⟩
  have B2 := belowThen B1 bl2
  have HX2 := dHide ((dUnhide HX1).below bl2)
  clear k0 k1 k2
  have k0 := dUnhide HX2 0 _ rfl
  have k1 := dUnhide HX2 1 _ rfl
  have k2 := dUnhide HX2 2 _ rfl
  clear B1 bl2 HX1 C2
  cases b2
  · have R : RetB P (.returned (.bool false)) := RetB.no fun h => by have := h2.2 ((dUnhide SD).1 h).2.1; cases this
    clear h2
    go_wp2
    go_ret
    exact ⟨R, B2⟩
  have H2 := dHide (h2.1 rfl)
  clear h2
  go_wp2_with fail
  refine (dUnhide C3 _ B2).mono ?_
  rintro e w3 ⟨⟨b3, rfl, h3⟩, dr3⟩
  have B3 := belowThen B2 dr3.below
  have HX3 := dHide ((dUnhide HX2).below dr3.below)
  clear k0 k1 k2
  have k0 := dUnhide HX3 0 _ rfl
  have k1 := dUnhide HX3 1 _ rfl
  have k2 := dUnhide HX3 2 _ rfl
  clear B2 dr3 HX2 C3
  cases b3
  · have R : RetB P (.returned (.bool false)) := RetB.no fun h => by have := h3.2 ((dUnhide SD).1 h).2.2.1; cases this
    clear h3
    go_wp2
    go_ret
    exact ⟨R, B3⟩
  have H3 := dHide (h3.1 rfl)
  clear h3
  by_cases hs : 0 ≤ sl ∧ sl ≤ 30
  · have C4 := dHide fun W => l1In_yes sl 0 30 hs.1 hs.2 W
    have R : RetB P (.returned (.bool true)) := RetB.yes ((dUnhide SD).2 ⟨dUnhide H1, dUnhide H2, dUnhide H3, hs⟩)
    clear hs
    go_wp2_with fail
    refine (dUnhide C4 _).mono ?_
    rintro e w4 ⟨rfl, rfl⟩
    go_wp2
    go_ret
    exact ⟨R, B3⟩
  · have C4 := dHide fun W => l1In_no sl 0 30 (by omega) W
    have R : RetB P (.returned (.bool false)) := RetB.no fun h => hs ((dUnhide SD).1 h).2.2.2
    clear hs
    go_wp2_with fail
    refine (dUnhide C4 _).mono ?_
    rintro e w4 ⟨rfl, rfl⟩
    go_wp2
    go_ret
    exact ⟨R, B3⟩
end Go.Proofs.Ytognmmmplmideaa
namespace Go.Proofs.Ytognmmmplmideaa
open Go.ChangeShapes Go.WideShapes Go.ChangeAt Go.RowKit
set_option linter.unusedVariables false
set_option linter.unusedSimpArgs false

/-- The block that an append to v may write. -/
def touch : Value → Option Nat
  | .slice (some ad) _ cap => if cap = 0 then none else some ad.block
  | _ => none
section
variable {α : Type}
/-- v reads as ms, and may be appended to; what an append may write lies from base on. -/
def ApR (T : TypeId) (sz : Nat) (cl : α → List Value) (w : World) (base : Nat) (v : Value) (ms : List α) : Prop :=
  (ms = [] ∧ ∃ a, v = .slice a 0 0) ∨ w.ownsRow base T sz v ms.length (fcells cl ms)
variable {T TS : TypeId} {z : Value} {sz bytes : Nat} {cl : α → List Value} {w w' : World} {base base' : Nat} {v : Value} {ms ns : List α}
theorem ApR.own (E : Elem T TS z sz bytes cl) (h : ApR T sz cl w base v ms) : OwnRw sz cl w base v ms := by
  rcases h with ⟨rfl, a, rfl⟩ | h
  · exact OwnRw.nil _ _ _ _ (by omega)
  · exact ownRw_of_row E.len E.pos h
theorem ApR.mono (h : ApR T sz cl w base v ms) (hb : base' ≤ base) : ApR T sz cl w base' v ms := by
  rcases h with h | h
  · exact .inl h
  · exact .inr (rowR_mono h hb)
theorem ApR.below (h : ApR T sz cl w base v ms) (hb : Below w.heap.size w w') : ApR T sz cl w' base v ms := by
  rcases h with h | h
  · exact .inl h
  · exact .inr (rowR_below h hb)
theorem ApR.slice (E : Elem T TS z sz bytes cl) (h : ApR T sz cl w base v ms) : ∃ a c, v = .slice a ms.length c := by
  rcases h with ⟨rfl, a, rfl⟩ | h
  · exact ⟨a, 0, rfl⟩
  · exact rowR_slice h
/-- What touches is from base on, and in the world. -/
theorem ApR.touched (E : Elem T TS z sz bytes cl) (h : ApR T sz cl w base v ms) {k : Nat} (hk : touch v = some k) : base ≤ k ∧ k < w.heap.size := by
  rcases h with ⟨rfl, a, rfl⟩ | h
  · cases a <;> simp [touch] at hk
  · rcases h.2 with ⟨rfl, h0⟩ | ⟨g, cap, cur, rfl, hb, hg, -⟩
    · simp [touch] at hk
    · by_cases hc : cap = 0
      · simp [touch, hc] at hk
      · simp [touch, hc] at hk
        subst hk
        exact ⟨hb, (Array.getElem?_eq_some_iff.1 hg).1⟩
theorem ApR.kept (E : Elem T TS z sz bytes cl) (h : ApR T sz cl w base v ms) {row : Option Nat} (hg : w.grownBy w' row) (hne : row = none ∨ touch v ≠ row) : ApR T sz cl w' base v ms := by
  rcases h with h | h
  · exact .inl h
  · by_cases ht : touch v = none
    · rcases h.2 with ⟨rfl, h0⟩ | ⟨g, cap, cur, rfl, hb, hgg, hnc, hcm, hcs, htk⟩
      · have : ms = [] := List.length_eq_zero_iff.1 h0
        exact .inl ⟨this, none, rfl⟩
      · have hc : cap = 0 := by
          rcases Nat.eq_zero_or_pos cap with h1 | h1
          · exact h1
          · have : cap ≠ 0 := by omega
            simp [touch, this] at ht
        subst hc
        have h0 : ms.length = 0 := by omega
        exact .inl ⟨List.length_eq_zero_iff.1 h0, some ⟨g, 0, none⟩, by rw [h0]⟩
    · refine .inr (h.kept hg ?_)
      rcases h.2 with ⟨rfl, h0⟩ | ⟨g, cap, cur, rfl, hb, hgg, hnc, hcm, hcs, htk⟩
      · exact .inl rfl
      · right
        have hc : cap ≠ 0 := fun e => ht (by simp [touch, e])
        rcases hne with rfl | hne
        · simp [Value.ownBlock]
        · simpa [touch, hc, Value.ownBlock] using hne
/-- The cells of what is appended. -/
theorem rw_news (E : Elem T TS z sz bytes cl) {b off : Nat} (hc : ∀ i (h : i < ns.length) j u, (cl ns[i])[j]? = some u → w.cell? ⟨b, off + i * sz + j, none⟩ = some u) : ∀ j u, (fcells cl ns)[j]? = some u → w.cell? ((⟨b, off, none⟩ : Addr).add j) = some u := by
  intro j u hu
  have hj : j < ns.length * sz := by
    rcases Nat.lt_or_ge j (ns.length * sz) with h | h
    · exact h
    · rw [List.getElem?_eq_none (by rw [fcells_len E.len]; exact h)] at hu
      cases hu
  have hp := E.pos
  have hi' : j / sz < ns.length := Nat.div_lt_of_lt_mul (by rw [Nat.mul_comm]; exact hj)
  have hjm : j % sz < (cl ns[j / sz]).length := by rw [E.len]; exact Nat.mod_lt _ hp
  obtain ⟨u', hu'⟩ : ∃ u', (cl ns[j / sz])[j % sz]? = some u' := ⟨_, List.getElem?_eq_getElem hjm⟩
  have e1 := fcells_at E.len ns (j / sz) hi' (j % sz) u' hu'
  have e2 : j / sz * sz + j % sz = j := by rw [Nat.mul_comm]; exact Nat.div_add_mod j sz
  rw [e2, hu] at e1
  cases e1
  have := hc (j / sz) hi' (j % sz) u hu'
  rw [addr_add]
  rw [Nat.add_assoc, e2] at this
  exact this
/-- append, whatever is appended to what may be appended to. -/
theorem run_apR (E : Elem T TS z sz bytes cl) (ty : TypeId) (h : ApR T sz cl w base v ms) (sv : Value) (hsrc : Rw sz cl w sv ns)
    (hb : (ms.length + ns.length) * bytes ≤ 140737488355328) (hl : ms.length + ns.length ≤ 9223372036854775807) (hbase : base ≤ w.heap.size) :
    ∃ v' w', (Builtin.append_ #[TS, TS] ty #[v, sv]).run Try.prog w = .ok v' w' ∧ ApR T sz cl w' base v' (ms ++ ns) ∧ w.grownBy w' (touch v) ∧ (touch v' = touch v ∨ ∀ k, touch v' = some k → w.heap.size ≤ k) := by
  obtain ⟨i0, hi, hz0, hz1, hz2⟩ := info_parts E.info
  have hm : maxLen = 9223372036854775807 := rfl
  have hsrc' := hsrc
  obtain ⟨h0, a, cap, rfl, hcap, hs⟩ := hsrc'
  by_cases hns : ns = []
  · subst hns
    refine ⟨v, w, ?_, by simpa using h, ⟨rfl, rfl, rfl, Nat.le_refl _, fun _ _ _ => rfl⟩, .inl rfl⟩
    have hf : ∀ w : World, (Builtin.firstCells i0.size 0 (.slice a 0 cap)).run Try.prog w = .ok #[] w := fun w => by
      cases a <;> simp [Builtin.firstCells, loadCells, loadCellsFrom]
    rcases h with ⟨rfl, a0, rfl⟩ | h
    · cases a0 <;> cases a <;> simp [Builtin.append_, run_underlying E.under, sizeOf, typeInfo, hi, Builtin.lenOf, Builtin.firstCells, storeCells, loadCells, loadCellsFrom]
    · rcases h.2 with ⟨rfl, h1⟩ | ⟨g, cap', cur, rfl, _, _, hnc, _⟩
      · cases a <;> simp [Builtin.append_, run_underlying E.under, sizeOf, typeInfo, hi, Builtin.lenOf, Builtin.firstCells, storeCells, loadCells, loadCellsFrom]
      · cases a <;> simp [Builtin.append_, run_underlying E.under, sizeOf, typeInfo, hi, Builtin.lenOf, Builtin.firstCells, hnc, storeCells, loadCells, loadCellsFrom]
  · obtain ⟨b, off, rfl, hc⟩ : ∃ b off, a = some ⟨b, off, none⟩ ∧ ∀ i (h : i < ns.length) j u, (cl ns[i])[j]? = some u → w.cell? ⟨b, off + i * sz + j, none⟩ = some u := by
      rcases hs with h | h
      · exact absurd h hns
      · exact h
    have hnews := rw_news E hc
    have hpos : 0 < ns.length := List.length_pos_iff.2 hns
    -- the world grows: a new row
    have fin : ∀ v' w', (Builtin.append_ #[TS, TS] ty #[v, .slice (some ⟨b, off, none⟩) ns.length cap]).run Try.prog w = .ok v' w' → w'.ownsRow w.heap.size T sz v' (ms ++ ns).length (fcells cl (ms ++ ns)) → w.grownBy w' none → _ := fun v' w' hrun h1 h2 =>
      (show ∃ v' w', (Builtin.append_ #[TS, TS] ty #[v, .slice (some ⟨b, off, none⟩) ns.length cap]).run Try.prog w = .ok v' w' ∧ ApR T sz cl w' base v' (ms ++ ns) ∧ w.grownBy w' (touch v) ∧ (touch v' = touch v ∨ ∀ k, touch v' = some k → w.heap.size ≤ k) from
        ⟨v', w', hrun, (ApR.mono (.inr h1) hbase), h2.but _, .inr fun k hk => (ApR.touched E (.inr h1) hk).1⟩)
    have nilc : v = .slice none 0 0 → ms = [] → ∃ v' w', (Builtin.append_ #[TS, TS] ty #[v, .slice (some ⟨b, off, none⟩) ns.length cap]).run Try.prog w = .ok v' w' ∧ ApR T sz cl w' base v' (ms ++ ns) ∧ w.grownBy w' (touch v) ∧ (touch v' = touch v ∨ ∀ k, touch v' = some k → w.heap.size ≤ k) := by
      rintro rfl rfl
      obtain ⟨v', w', hrun, h1, h2⟩ := run_appR E (ms := []) (base := w.heap.size) ty (rowR_none E w w.heap.size) _ hsrc hb hl (Nat.le_refl _)
      exact fin v' w' hrun h1 (by simpa [Value.ownBlock] using h2)
    have growc : ∀ (g : Addr) (c0 : Nat), v = .slice (some g) ms.length c0 → c0 < ms.length + ns.length → (∀ j u, (fcells cl ms)[j]? = some u → w.cell? (g.add j) = some u) → ∃ v' w', (Builtin.append_ #[TS, TS] ty #[v, .slice (some ⟨b, off, none⟩) ns.length cap]).run Try.prog w = .ok v' w' ∧ ApR T sz cl w' base v' (ms ++ ns) ∧ w.grownBy w' (touch v) ∧ (touch v' = touch v ∨ ∀ k, touch v' = some k → w.heap.size ≤ k) := by
      rintro g c0 rfl hg hold
      obtain ⟨v', w', hrun, r1, r2⟩ := run_append_arg_grows (P := Try.prog) w TS ty T i0 z sz bytes E.under hi hz0 hz1 hz2 E.zcells E.pos g ms.length c0 (fcells cl ms) (fcells_len E.len ms) hold ⟨b, off, none⟩ ns.length cap (fcells cl ns) (fcells_len E.len ns) hnews hg (by omega) hb
      exact fin v' w' hrun (by rw [fcells_app, List.length_append]; exact r1) r2
    rcases h with ⟨rfl, a0, rfl⟩ | h
    · cases a0 with
      | none => exact nilc rfl rfl
      | some g => exact growc g 0 rfl (by simpa using hpos) (fun j u hu => by simp [fcells] at hu)
    · rcases h.2 with ⟨rfl, hn0⟩ | ⟨g, c0, cur, rfl, hbg, hg, hnc, hcm, hcs, htake⟩
      · exact nilc rfl (List.length_eq_zero_iff.1 hn0)
      · by_cases hroom : ms.length + ns.length ≤ c0
        · obtain ⟨v', w', hrun, h1, h2⟩ := run_appR E ty h _ hsrc hb hl hbase
          have hfit : ms.length * i0.size + (fcells cl ns).length ≤ cur.size := by rw [fcells_len E.len, hz1, hcs, ← Nat.add_mul]; exact Nat.mul_le_mul_right _ hroom
          have hr := run_append_room (P := Try.prog) w TS ty T i0 E.under hi g ms.length c0 cur hg ⟨b, off, none⟩ ns.length cap (fcells cl ns) (by rw [hz1]; exact fcells_len E.len ns) hnews (fcells_one E ns) hroom hfit
          have hc0 : ¬ c0 = 0 := by omega
          have hv : v' = .slice (some ⟨g, 0, none⟩) (ms.length + ns.length) c0 := by
            rw [hr] at hrun
            cases hrun
            rfl
          subst hv
          exact ⟨_, w', hrun, .inr h1, by simpa [touch, hc0, Value.ownBlock] using h2, .inl (by simp [touch, hc0])⟩
        · exact growc ⟨g, 0, none⟩ c0 rfl (by omega) (h.cells (g := g) rfl)
variable {ops : Array Oper} {rest : List Oper} {o : Oper} {a : Act} {Q : Exit → Act → World → Prop}
/-- append at the operation. -/
theorem wp_apR (E : Elem T TS z sz bytes cl) (hgd : o.guard = none) (s x : Operand) (ho : o.op = .call { callee := .builtin .append, args := #[s, x], argTypes := #[TS, TS] })
    (base : Nat) (v : Value) (ms : List α) (hs : a.eval s = v) (hown : ApR T sz cl w base v ms) (sv : Value) (ns : List α) (hx : a.eval x = sv) (hsrc : Rw sz cl w sv ns)
    (hb : (ms.length + ns.length) * bytes ≤ 140737488355328) (hl : ms.length + ns.length ≤ 9223372036854775807) (hbase : base ≤ w.heap.size)
    (h : ∀ v' w', ApR T sz cl w' base v' (ms ++ ns) → w.grownBy w' (touch v) → (touch v' = touch v ∨ ∀ k, touch v' = some k → w.heap.size ≤ k) → wpList Try.prog ops Q rest (a.put o.dst v') w') : wpList Try.prog ops Q (o :: rest) a w := by
  refine wpList_plain hgd fun K' hK' => ?_
  obtain ⟨v', w', hrun, h1, h2, h3⟩ := run_apR E o.type hown sv hsrc hb hl hbase
  unfold Oper.wp
  simp [execOp, ho, resolve, invoke, builtin, hs, hx, hrun, Result.andThen]
  exact hK' _ _ (h v' w' h1 h2 h3)
/-- append as one step of a region that draws. -/
theorem step_apR {K : Act → World → Prop} {F : Prop} (E : Elem T TS z sz bytes cl) (hg : o.guard = none) (s x : Operand) (hop : o.op = .call { callee := .builtin .append, args := #[s, x], argTypes := #[TS, TS] })
    (base : Nat) (v : Value) (ms : List α) (hs : a.eval s = v) (hown : ApR T sz cl w base v ms) (sv : Value) (ns : List α) (hx : a.eval x = sv) (hsrc : Rw sz cl w sv ns)
    (hb : (ms.length + ns.length) * bytes ≤ 140737488355328) (hl : ms.length + ns.length ≤ 9223372036854775807) (hbase : base ≤ w.heap.size)
    (h : ∀ v' w', ApR T sz cl w' base v' (ms ++ ns) → w.grownBy w' (touch v) → (touch v' = touch v ∨ ∀ k, touch v' = some k → w.heap.size ≤ k) → K (a.put o.dst v') w') :
    if Region.wanted o (yielded ops a.tmps) = true then Oper.wp Try.prog o a w K Q else F := by
  have hw : Region.wanted o (yielded ops a.tmps) = true := by simp [Region.wanted, hg]
  rw [if_pos hw]
  obtain ⟨v', w', hrun, h1, h2, h3⟩ := run_apR E o.type hown sv hsrc hb hl hbase
  have h4 := h v' w' h1 h2 h3
  unfold Oper.wp
  simp [execOp, hop, resolve, invoke, builtin, hs, hx, hrun, Result.andThen]
  exact h4
/-- append to a slice of no capacity: a copy in new memory. -/
theorem run_cpR (E : Elem T TS z sz bytes cl) (ty : TypeId) (a0 : Option Addr) (sv : Value) (hsrc : Rw sz cl w sv ns) (hb : ns.length * bytes ≤ 140737488355328) :
    ∃ v' w', (Builtin.append_ #[TS, TS] ty #[.slice a0 0 0, sv]).run Try.prog w = .ok v' w' ∧ ApR T sz cl w' w.heap.size v' ns ∧ Below w.heap.size w w' := by
  obtain ⟨v', w', h1, h2, h3, -⟩ := run_apR E (ms := []) (base := w.heap.size) ty (.inl ⟨rfl, a0, rfl⟩) sv hsrc (by simpa using hb) (by have := hsrc.1; simpa using this) (Nat.le_refl _)
  have ht : touch (.slice a0 0 0) = none := by cases a0 <;> simp [touch]
  rw [ht] at h3
  exact ⟨v', w', h1, by simpa using h2, ⟨h3.os, h3.tape, h3.output, h3.size, fun k hk => h3.block k hk (by simp)⟩⟩
theorem step_cpR {K : Act → World → Prop} {F : Prop} (E : Elem T TS z sz bytes cl) (hg : o.guard = none) (s x : Operand) (hop : o.op = .call { callee := .builtin .append, args := #[s, x], argTypes := #[TS, TS] })
    (a0 : Option Addr) (hs : a.eval s = .slice a0 0 0) (sv : Value) (ns : List α) (hx : a.eval x = sv) (hsrc : Rw sz cl w sv ns) (hb : ns.length * bytes ≤ 140737488355328)
    (h : ∀ v' w', ApR T sz cl w' w.heap.size v' ns → Below w.heap.size w w' → K (a.put o.dst v') w') :
    if Region.wanted o (yielded ops a.tmps) = true then Oper.wp Try.prog o a w K Q else F := by
  have hw : Region.wanted o (yielded ops a.tmps) = true := by simp [Region.wanted, hg]
  rw [if_pos hw]
  obtain ⟨v', w', hrun, h1, h2⟩ := run_cpR E o.type a0 sv hsrc hb
  have h4 := h v' w' h1 h2
  unfold Oper.wp
  simp [execOp, hop, resolve, invoke, builtin, hs, hx, hrun, Result.andThen]
  exact h4
theorem wp_cpR (E : Elem T TS z sz bytes cl) (hgd : o.guard = none) (s x : Operand) (ho : o.op = .call { callee := .builtin .append, args := #[s, x], argTypes := #[TS, TS] })
    (a0 : Option Addr) (hs : a.eval s = .slice a0 0 0) (sv : Value) (ns : List α) (hx : a.eval x = sv) (hsrc : Rw sz cl w sv ns) (hb : ns.length * bytes ≤ 140737488355328)
    (h : ∀ v' w', ApR T sz cl w' w.heap.size v' ns → Below w.heap.size w w' → wpList Try.prog ops Q rest (a.put o.dst v') w') : wpList Try.prog ops Q (o :: rest) a w := by
  refine wpList_plain hgd fun K' hK' => ?_
  obtain ⟨v', w', hrun, h1, h2⟩ := run_cpR E o.type a0 sv hsrc hb
  unfold Oper.wp
  simp [execOp, ho, resolve, invoke, builtin, hs, hx, hrun, Result.andThen]
  exact hK' _ _ (h v' w' h1 h2)
/-- Two rows that were made one behind the other touch different blocks. -/
theorem touch_ne (E : Elem T TS z sz bytes cl) {u : Value} {ls : List α} {w1 : World} {base1 : Nat} (h : ApR T sz cl w1 base1 u ls) (k : ApR T sz cl w base v ms) (hb : w1.heap.size ≤ base) : touch u = none ∨ touch u ≠ touch v := by
  cases hu : touch u with
  | none => exact .inl rfl
  | some i =>
    right
    intro e
    have h1 := (h.touched E hu).2
    have h2 := (k.touched E e.symm).1
    omega
/-- What is written elsewhere. -/
theorem ApR.far (E : Elem T TS z sz bytes cl) (h : ApR T sz cl w base v ms) {b o' : Nat} (hb : b < base) (u : Value) : ApR T sz cl (w.setCell ⟨b, o', none⟩ u) base v ms := by
  refine h.kept E (grown_set w b o' u) (.inr fun e => ?_)
  have := (h.touched E e).1
  omega
theorem ApR.put (E : Elem T TS z sz bytes cl) (h : ApR T sz cl w base v ms) {b o' : Nat} (hb : touch v ≠ some b) (u : Value) : ApR T sz cl (w.setCell ⟨b, o', none⟩ u) base v ms := h.kept E (grown_set w b o' u) (.inr hb)
/-- What an append leaves of a world w0 that it stands behind: the row, the frame from B on, and a block of a record below base. -/
theorem apR_after (E : Elem T TS z sz bytes cl) {w0 W : World} {B : Nat} {wB : World} {ls : List α} (h : ApR T sz cl W base v ms) (hbW : Below B wB W) (hB : B ≤ W.heap.size) (hBb : B ≤ base) (hg : W.grownBy w' (touch v)) : Below B wB w' :=
  hbW.grown hg hB (fun k hk => by have := (h.touched E hk).1; omega)
end
end Go.Proofs.Ytognmmmplmideaa
