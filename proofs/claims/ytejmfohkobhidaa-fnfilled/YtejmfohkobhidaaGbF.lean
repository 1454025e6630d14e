/- Several texts in one: PutA, EntB, StB, StC. -/
import Derived.Test.YtejmfohkobhidaaGaT
import Derived.Test.YtejmfohkobhidaaGbE
import Derived.Test.YtejmfohkobhidaaAppB
import Derived.Deep.RegionHeld3
import Derived.Test.YtejmfohkobhidaaGaA
namespace Go.Proofs.Ytejmfohkobhidaa
open Go.ChangeShapes Go.WideShapes Go.ChangeAt Go.RowKit
set_option linter.unusedVariables false

/-- What PutNum answers: the number form; nothing of what is below 0. -/
def numZ (x : Int) : List UInt8 := if x < 0 then [] else numB x.toNat
theorem numZ_len (x : Int) : (numZ x).length ≤ 9 := by
  unfold numZ; split
  · simp
  · exact numB_len _
end Go.Proofs.Ytejmfohkobhidaa
namespace Go.Proofs.Ytejmfohkobhidaa
open Go.ChangeShapes Go.WideShapes Go.ChangeAt Go.RowKit
set_option maxRecDepth 100000
set_option linter.unusedVariables false

theorem bytes_loop_len (b : ByteArray) (i : Nat) (r : List UInt8) : (ByteArray.toList.loop b i r).length = (b.size - i) + r.length := by
  induction h : b.size - i generalizing i r with
  | zero =>
    rw [ByteArray.toList.loop]
    have : ¬ i < b.size := by omega
    simp [this]
  | succ n ih =>
    rw [ByteArray.toList.loop]
    have : i < b.size := by omega
    simp [this]
    rw [ih (i+1) _ (by omega)]
    simp
    omega
theorem bytes_ne (d : ByteArray) (h : d.size ≠ 0) : d.toList.isEmpty = false := by
  have e : d.toList.length = d.size := by rw [ByteArray.toList, bytes_loop_len]; simp
  cases hd : d.toList with
  | nil => rw [hd] at e; simp at e; omega
  | cons a l => rfl
theorem bytes_nil (d : ByteArray) (h : d.size = 0) : d = ⟨#[]⟩ := by
  obtain ⟨a⟩ := d
  have : a.size = 0 := h
  congr 1
  exact Array.eq_empty_of_size_eq_zero this
theorem specEntOk_yes (e : Ent) (h : entP e) (w : World) :
    Calls Try.prog 33 #[e.val] w fun r w' => r = .returned (.bool true) ∧ Below w.heap.size w w' := by
  obtain ⟨x, v, h0, d⟩ := e
  obtain ⟨hp, v0, v1, hv, hd, hh⟩ := h
  simp only at hp v0 v1 hv hd hh
  rcases Int.lt_or_le 0 v with hv0 | hv0
  · have hv' := hv hv0
    cases h0 with
    | false => exact specEntOk_w1 x v d hp hv0 v1 hv' (by omega) w
    | true =>
      obtain rfl := bytes_nil d (hh rfl).2
      exact specEntOk_w2 x v hp hv0 v1 hv' w
  · obtain rfl : v = 0 := by omega
    cases h0 with
    | false => exact specEntOk_w0f x d hp (by omega) w
    | true => exact absurd (hh rfl).1 (by omega)
theorem specEntOk_no (e : Ent) (hf : e.fits) (h : ¬ entP e) (w : World) :
    Calls Try.prog 33 #[e.val] w fun r w' => r = .returned (.bool false) ∧ Below w.heap.size w w' := by
  obtain ⟨x, v, h0, d⟩ := e
  obtain ⟨f1, f2, f3, f4, f5⟩ := hf
  simp only at f1 f2 f3 f4 f5
  unfold entP at h
  simp only at h
  by_cases hp : isPl x
  · by_cases hr : v < 0 ∨ 30 < v
    · exact specEntOk_no2 x v h0 d hp hr w
    · have r0 : 0 ≤ v := by omega
      have r1 : v ≤ 30 := by omega
      by_cases hd : (40 : Int) < (d.size : Int)
      · rcases Int.lt_or_le 0 v with hv0 | hv0
        · by_cases hv : v ≤ x / 4294967296
          · exact specEntOk_no3 x v h0 d hp hv0 r1 hv w
          · exact specEntOk_no5 x v h0 d hp hv0 r1 (by omega) hd w
        · obtain rfl : v = 0 := by omega
          exact specEntOk_no4 x h0 d hp hd w
      · rcases Int.lt_or_le 0 v with hv0 | hv0
        · by_cases hv : v ≤ x / 4294967296
          · exact specEntOk_no3 x v h0 d hp hv0 r1 hv w
          · cases h0 with
            | false => exact absurd ⟨hp, r0, r1, fun _ => by omega, by omega, fun h => by cases h⟩ h
            | true =>
              refine specEntOk_w3 x v d hp hv0 r1 (by omega) (by omega) (bytes_ne d fun h1 => ?_) w
              exact h ⟨hp, r0, r1, fun _ => by omega, by omega, fun _ => ⟨hv0, h1⟩⟩
        · obtain rfl : v = 0 := by omega
          cases h0 with
          | false => exact absurd ⟨hp, r0, r1, fun h => by omega, by omega, fun h => by cases h⟩ h
          | true => exact specEntOk_w0t x d hp (by omega) w
  · exact specEntOk_no1 x v h0 d f2 hp w
/-- 1 or 0. -/
def bitN (h : Bool) : Nat := if h then 1 else 0
/-- An entry's bytes. -/
def packB (n1 n2 : Nat) (h : Bool) (d : List UInt8) : List UInt8 := numB n1 ++ numB n2 ++ numB (bitN h) ++ textB d
theorem numB_pos (x : Nat) : 0 < (numB x).length := by
  unfold numB
  by_cases h : x < 128
  · rw [numF_small h]; simp
  · rw [numF_big h]; simp
/-- append on bytes, as one step of a region that draws. -/
theorem step_app8 {ops : Array Oper} {o : Oper} {a : Act} {w : World} {K : Act → World → Prop} {Q : Exit → Act → World → Prop} {E : Prop}
    (hg : o.guard = none) (s x : Operand) (hop : o.op = .call { callee := .builtin .append, args := #[s, x], argTypes := #[22, 22] })
    (base : Nat) (v : Value) (bs : List UInt8) (hs : a.eval s = v) (hown : w.ownsRow base 5 1 v bs.length (bcells bs))
    (g m c : Nat) (cs : List UInt8) (hx : a.eval x = .slice (some ⟨g, 0, none⟩) m c) (hsrc : w.ownsRow base 5 1 (.slice (some ⟨g, 0, none⟩) m c) cs.length (bcells cs))
    (hb : bs.length + cs.length ≤ 1099511627776) (hbase : base ≤ w.heap.size)
    (h : ∀ v' w', w'.ownsRow base 5 1 v' (bs ++ cs).length (bcells (bs ++ cs)) → w.grownBy w' v.ownBlock → K (a.put o.dst v') w') :
    if Region.wanted o (yielded ops a.tmps) = true then Oper.wp Try.prog o a w K Q else E := by
  obtain ⟨i0, hi, hz0, hz1, hz2⟩ := info_parts info8a
  have hm : maxLen = 9223372036854775807 := rfl
  have hlen : cs.length = m := by
    rcases hsrc.2 with ⟨h0, _⟩ | ⟨g', cap, cur, h0, _⟩
    · cases h0
    · cases h0; rfl
  subst hlen
  have hw : Region.wanted o (yielded ops a.tmps) = true := by simp [Region.wanted, hg]
  rw [if_pos hw]
  obtain ⟨v', w', hrun, h1, h2, _⟩ := run_append_own (P := Try.prog) w base 22 o.type 5 i0 (.int .u8 0) 1 1 Try.underlying22 hi hz0 hz1 hz2 rfl (by decide) v bs.length (bcells bs) hown ⟨g, 0, none⟩ cs.length c (bcells cs) (by simp [bcells]) (hsrc.cells rfl) (cells_one _) (by omega) (by omega) hbase
  have h3 := h v' w' (by
    have e : bcells (bs ++ cs) = bcells bs ++ bcells cs := by simp [bcells]
    rw [e, List.length_append]; exact h1) h2
  unfold Oper.wp
  simp [execOp, hop, resolve, invoke, builtin, hs, hx, hrun, Result.andThen]
  exact h3
theorem own_mono {w : World} {B B' n : Nat} {v : Value} {l : List Value} (h : w.ownsRow B 5 1 v n l) (hB : B' ≤ B) : w.ownsRow B' 5 1 v n l := by
  refine ⟨h.1, ?_⟩
  rcases h.2 with h0 | ⟨g, cap, cur, h1, h2, h3⟩
  · exact .inl h0
  · exact .inr ⟨g, cap, cur, h1, by omega, h3⟩
theorem own_some {w : World} {B n : Nat} {v : Value} {l : List Value} (h : w.ownsRow B 5 1 v n l) (hn : 0 < n) : ∃ g cap, v = .slice (some ⟨g, 0, none⟩) n cap := by
  rcases h.2 with ⟨_, h0⟩ | ⟨g, cap, cur, h1, h2, h3⟩
  · omega
  · exact ⟨g, cap, h1⟩
theorem Below.row {w w' : World} (h : Below w.heap.size w w') (row : Option Nat) : w.grownBy w' row := ⟨h.os, h.tape, h.output, h.size, fun k hk _ => h.block k hk⟩
theorem own_kept {w w' : World} {B n : Nat} {v : Value} {l : List Value} (h : w.ownsRow B 5 1 v n l) (hg : w.grownBy w' none) : w'.ownsRow B 5 1 v n l :=
  h.kept hg (by cases v.ownBlock <;> simp)
theorem own_len8 {w : World} {B n : Nat} {v : Value} {l : List UInt8} (h : w.ownsRow B 5 1 v n (bcells l)) : w.ownsRow B 5 1 v l.length (bcells l) := by
  have e : l.length = n := by have := h.1; simpa [bcells] using this
  rw [e]; exact h
end Go.Proofs.Ytejmfohkobhidaa
namespace Go.Proofs.Ytejmfohkobhidaa
open Go.ChangeShapes Go.WideShapes Go.ChangeAt Go.RowKit
set_option linter.unusedVariables false
set_option maxRecDepth 100000

theorem specEntOk_any (e : Ent) (hf : e.fits) (w : World) : Calls Try.prog 33 #[e.val] w fun r w' => RetB (entP e) r ∧ Below w.heap.size w w' := by
  by_cases h : entP e
  · exact (specEntOk_yes e h w).mono fun r w' ⟨h1, h2⟩ => ⟨h1 ▸ RetB.yes h, h2⟩
  · exact (specEntOk_no e hf h w).mono fun r w' ⟨h1, h2⟩ => ⟨h1 ▸ RetB.no h, h2⟩
set_option maxHeartbeats 2000000 in
theorem l6List_any (v : Value) (es : List Ent) (n : Nat) (w : World) (hv : Rw 4 Ent.cl w v es) (hf : fitE es) :
    Calls Try.prog 35 #[v, .int .i64 (n : Int)] w fun e w' => RetB (listP es n) e ∧ Below w.heap.size w w' := by
  have HV := dHide fun W (hb : Below w.heap.size w W) => hv.below hb
  have HF := dHide hf
  obtain ⟨h0, a, cap, rfl, -, -⟩ := hv
  clear hf
  by_cases hn : (n : Int) < (es.length : Int)
  · have hno : Hid (¬ listP es n) := fun h => by have := h.1; omega
    clear HV HF
    go_enter Try.func35, Try.ntmps35
    go_wp2
    go_ret
    exact ⟨RetB.no (dUnhide hno), Below.refl _ _⟩
  · go_enter Try.func35, Try.ntmps35
    go_wp2
    go_loopw [5] (fun x wr => ∃ k : Nat, x = .int .i64 (k : Int) ∧ k ≤ es.length ∧ Hid (∀ i (h : i < es.length), i < k → entP es[i]) ∧ Below w.heap.size w wr) (fun x _ => es.length - (intOf x).toNat)
    case atStart => exact ⟨0, rfl, Nat.zero_le _, (fun i h h' => by omega), Below.refl _ _⟩
    case round =>
      obtain ⟨k, rfl, hk, hinv, hb⟩ := hrel
      by_cases hlt : (k : Int) < (es.length : Int)
      · have hkl : k < es.length := by omega
        obtain ⟨b, off, rfl, hc⟩ := (dUnhide HV wr hb).ent hkl
        obtain ⟨k0, k1, k2, k3⟩ := hc k hkl
        have CE := dHide (specEntOk_any es[k] (dUnhide HF _ (List.getElem_mem hkl)) wr)
        have hst : Hid (entP es[k] → ∀ i (h : i < es.length), i < k + 1 → entP es[i]) := fun he i h h' => by
          rcases Nat.lt_or_ge i k with hlt' | hge
          · exact dUnhide hinv i h hlt'
          · obtain rfl : i = k := by omega
            exact he
        have hno : Hid (¬ entP es[k] → ¬ listP es n) := fun he h => he (h.2 _ (List.getElem_mem hkl))
        generalize es[k] = e at *
        obtain ⟨x, wv, ho, d⟩ := e
        unfold Ent.val at CE
        simp only at *
        clear hc hinv
        go_wp2_with fail
        refine (dUnhide CE).mono ?_
        rintro r w1 ⟨⟨bb, rfl, hbb⟩, b1⟩
        have hb1 := belowThen hb b1
        clear b1 CE k0 k1 k2 k3 hb
        cases bb
        · have R := dHide (dUnhide hno fun h => by have := hbb.2 h; cases this)
          clear hbb
          go_wp2
          go_ret
          exact ⟨RetB.no (dUnhide R), hb1⟩
        · have R := dHide (dUnhide hst (hbb.1 rfl))
          clear hbb
          go_wp2
          go_roundw
          case rel => exact ⟨k + 1, by go_num, by omega, R, hb1⟩
          case measure => simp [intOf]; omega
      · have hyes : Hid (listP es n) := ⟨by omega, fun e he => by
          obtain ⟨i, hi, rfl⟩ := List.getElem_of_mem he
          exact dUnhide hinv i hi (by omega)⟩
        clear hinv HV HF
        go_wp2
        go_ret
        exact ⟨RetB.yes (dUnhide hyes), hb⟩
set_option maxHeartbeats 2000000 in
theorem l6Asc_any (v : Value) (es : List Ent) (w : World) (hv : Rw 4 Ent.cl w v es) :
    Calls Try.prog 36 #[v] w fun e w' => RetB (ascE es) e ∧ Drew w w' := by
  have HV := dHide hv
  obtain ⟨h0, a, cap, rfl, -, -⟩ := hv
  go_enter Try.func36, Try.ntmps36
  go_wp2
  go_loopw [3] (fun x wr => ∃ k : Nat, x = .int .i64 ((k + 1 : Nat) : Int) ∧ (k ≤ es.length) ∧ Hid (∀ i (h : i + 1 < es.length), i < k → es[i].pl < es[i + 1].pl) ∧ Drew w wr) (fun x _ => es.length + 1 - (intOf x).toNat)
  case atStart => exact ⟨0, rfl, Nat.zero_le _, (fun i h h' => by omega), Drew.refl _⟩
  case round =>
    obtain ⟨k, rfl, hk, hinv, hdr⟩ := hrel
    by_cases hlt : ((k + 1 : Nat) : Int) < (es.length : Int)
    · have hkl : k + 1 < es.length := by omega
      obtain ⟨b, off, rfl, hc⟩ := (dUnhide HV).ent hkl
      have k0 : wr.cell? ⟨b, off + k * 4, none⟩ = some (.int .i64 es[k].pl) := (hdr.cell _).trans (hc k (by omega)).1
      have k1 : wr.cell? ⟨b, off + (k + 1) * 4, none⟩ = some (.int .i64 es[k + 1].pl) := (hdr.cell _).trans (hc (k + 1) hkl).1
      have hst : Hid (es[k].pl < es[k + 1].pl → ∀ i (h : i + 1 < es.length), i < k + 1 → es[i].pl < es[i + 1].pl) := fun he i h h' => by
        rcases Nat.lt_or_ge i k with hlt' | hge
        · exact dUnhide hinv i h hlt'
        · obtain rfl : i = k := by omega
          exact he
      have hno : Hid (¬ es[k].pl < es[k + 1].pl → ¬ ascE es) := fun he h => he (h k hkl)
      generalize es[k].pl = x at *
      generalize es[k + 1].pl = y at *
      have t1 : (0 : Int) ≤ (k : Int) := by omega
      have t2 : (k : Int) < (es.length : Int) := by omega
      have t3 : IntKind.i64.wrap (((k + 1 : Nat) : Int) - 1) = (k : Int) := by rw [IntKind.wrap_i64]; omega
      have t4 : IntKind.i64.wrap ((k : Int) + 1 - 1) = (k : Int) := by rw [IntKind.wrap_i64]; omega
      clear hc hinv HV
      by_cases hxy : y ≤ x
      · have hd : decide (y ≤ x) = true := decide_eq_true hxy
        have R := dHide (dUnhide hno (by omega))
        go_wp2
        go_quiet (fail)
        go_wp2
        go_ret
        exact ⟨RetB.no (dUnhide R), hdr.drewN _⟩
      · have hd : decide (y ≤ x) = false := decide_eq_false hxy
        have R := dHide (dUnhide hst (by omega))
        go_wp2
        go_quiet (fail)
        go_wp2
        go_roundw
        case rel => exact ⟨k + 1, by go_num, by omega, R, hdr.drewN _⟩
        case measure => simp [intOf]; omega
    · have hyes : Hid (ascE es) := fun i h => dUnhide hinv i h (by omega)
      clear hinv HV
      go_wp2
      go_ret
      exact ⟨RetB.yes (dUnhide hyes), hdr⟩
end Go.Proofs.Ytejmfohkobhidaa
namespace Go.Proofs.Ytejmfohkobhidaa
open Go.ChangeShapes Go.WideShapes Go.ChangeAt Go.RowKit
set_option linter.unusedVariables false
set_option maxRecDepth 100000

/-- A store of ints. -/
def fitS (s : St) : Prop := fitE s.kept ∧ fitE s.late ∧ -9223372036854775808 ≤ s.lock ∧ s.lock ≤ 9223372036854775807
/-- A store in memory. -/
def Rs (w : World) (v : Value) (s : St) : Prop := ∃ kv lv, v = .agg #[kv, lv, .int .i64 s.lock] ∧ Rw 4 Ent.cl w kv s.kept ∧ Rw 4 Ent.cl w lv s.late
theorem Rs.below {w w' : World} {v : Value} {s : St} (h : Rs w v s) (hb : Below w.heap.size w w') : Rs w' v s := by
  obtain ⟨kv, lv, h1, h2, h3⟩ := h
  exact ⟨kv, lv, h1, h2.below hb, h3.below hb⟩
set_option maxHeartbeats 2000000 in
theorem specStoreOk_any (v : Value) (s : St) (w : World) (hv : Rs w v s) (hf : fitS s) :
    Calls Try.prog 10 #[v] w fun e w' => RetB (stP s) e ∧ Below w.heap.size w w' := by
  obtain ⟨kv, lv, rfl, hk, hl⟩ := hv
  obtain ⟨f1, f2, f3, f4⟩ := hf
  have C1 := dHide fun W (hb : Below w.heap.size w W) => l6List_any kv s.kept 200 W (hk.below hb) f1
  have C2 := dHide fun W (hb : Below w.heap.size w W) => l6List_any lv s.late 20 W (hl.below hb) f2
  have C3 := dHide fun W (hb : Below w.heap.size w W) => l6Asc_any kv s.kept W (hk.below hb)
  obtain ⟨-, ka, kc, rfl, -, -⟩ := hk
  obtain ⟨-, la, lc, rfl, -, -⟩ := hl
  have SD : Hid (stP s ↔ listP s.kept 200 ∧ listP s.late 20 ∧ ascE s.kept ∧ 0 ≤ s.lock ∧ s.lock ≤ 30) := Iff.rfl
  generalize stP s = P at *
  generalize s.lock = sl at *
  have X0 := Bx.new w [.slice ka s.kept.length kc, .slice la s.late.length lc, .int .i64 sl] 26
  have B0 : Below w.heap.size w (w.alloc (.cells #[.slice ka s.kept.length kc, .slice la s.late.length lc, .int .i64 sl] 26)) := (Below.refl _ _).alloc (Nat.le_refl _) _
  have HX0 := dHide X0
  clear X0
  go_enter Try.func10, Try.ntmps10
  go_wp2_with fail
  refine (dUnhide C1 _ B0).mono ?_
  rintro e w1 ⟨⟨b1, rfl, h1⟩, bl1⟩
  have B1 := belowThen B0 bl1
  have HX1 := dHide ((dUnhide HX0).below bl1)
  have k0 := dUnhide HX1 0 _ rfl
  have k1 := dUnhide HX1 1 _ rfl
  have k2 := dUnhide HX1 2 _ rfl
  clear B0 bl1 HX0 C1
  cases b1
  · have R : RetB P (.returned (.bool false)) := RetB.no fun h => by have := h1.2 ((dUnhide SD).1 h).1; cases this
    clear h1
    go_wp2
    go_ret
    exact ⟨R, B1⟩
  have H1 := dHide (h1.1 rfl)
  clear h1
  go_wp2_with fail
  refine (dUnhide C2 _ B1).mono ?_
  rintro e w2 ⟨⟨b2, rfl, h2⟩, bl2⟩
  have B2 := belowThen B1 bl2
  have HX2 := dHide ((dUnhide HX1).below bl2)
  clear k0 k1 k2
  have k0 := dUnhide HX2 0 _ rfl
  have k1 := dUnhide HX2 1 _ rfl
  have k2 := dUnhide HX2 2 _ rfl
  clear B1 bl2 HX1 C2
  cases b2
  · have R : RetB P (.returned (.bool false)) := RetB.no fun h => by have := h2.2 ((dUnhide SD).1 h).2.1; cases this
    clear h2
    go_wp2
    go_ret
    exact ⟨R, B2⟩
  have H2 := dHide (h2.1 rfl)
  clear h2
  go_wp2_with fail
  refine (dUnhide C3 _ B2).mono ?_
  rintro e w3 ⟨⟨b3, rfl, h3⟩, dr3⟩
  have B3 := belowThen B2 dr3.below
  have HX3 := dHide ((dUnhide HX2).below dr3.below)
  clear k0 k1 k2
  have k0 := dUnhide HX3 0 _ rfl
  have k1 := dUnhide HX3 1 _ rfl
  have k2 := dUnhide HX3 2 _ rfl
  clear B2 dr3 HX2 C3
  cases b3
  · have R : RetB P (.returned (.bool false)) := RetB.no fun h => by have := h3.2 ((dUnhide SD).1 h).2.2.1; cases this
    clear h3
    go_wp2
    go_ret
    exact ⟨R, B3⟩
  have H3 := dHide (h3.1 rfl)
  clear h3
  by_cases hs : 0 ≤ sl ∧ sl ≤ 30
  · have C4 := dHide fun W => l1In_yes sl 0 30 hs.1 hs.2 W
    have R : RetB P (.returned (.bool true)) := RetB.yes ((dUnhide SD).2 ⟨dUnhide H1, dUnhide H2, dUnhide H3, hs⟩)
    clear hs
    go_wp2_with fail
    refine (dUnhide C4 _).mono ?_
    rintro e w4 ⟨rfl, rfl⟩
    go_wp2
    go_ret
    exact ⟨R, B3⟩
  · have C4 := dHide fun W => l1In_no sl 0 30 (by omega) W
    have R : RetB P (.returned (.bool false)) := RetB.no fun h => hs ((dUnhide SD).1 h).2.2.2
    clear hs
    go_wp2_with fail
    refine (dUnhide C4 _).mono ?_
    rintro e w4 ⟨rfl, rfl⟩
    go_wp2
    go_ret
    exact ⟨R, B3⟩
end Go.Proofs.Ytejmfohkobhidaa
