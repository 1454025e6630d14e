/- Several texts in one: WrSb, WrB, WrG. -/
import Derived.Test.YthndkkjgjhgdnaaGreatDoorGk83
import Derived.Test.YthndkkjgjhgdnaaGreatDoorGaB
import Derived.Stop.Asserts
import Derived.Deep.DeepCutAuto
namespace Go.Proofs.YthndkkjgjhgdnaaGreatDoor
open Go.ChangeShapes Go.WideShapes Go.ChangeAt Go.RowKit
set_option linter.unusedVariables false
set_option linter.unusedSimpArgs false
set_option maxRecDepth 100000

theorem makeW (n : Nat) (h : n ≤ 1073741824) (w : World) : (Instr.makeSlice 38 (.int .i64 (n : Int)) (.int .i64 (n : Int))).run Tryz.prog w = .ok (.slice (some ⟨w.heap.size, 0, none⟩) n n) (w.alloc (.cells (madeCells (Value.agg #[.string ⟨#[]⟩, .slice none 0 0, .bool false]).cells (n * 3)) 82)) := by
  obtain ⟨i0, hi, hz0, hz1, hz2⟩ := info_parts (elemW).info
  have := run_make (P := Tryz.prog) w 38 82 i0 _ Tryz.underlying38 hi hz0 .i64 .i64 (n : Int) (n : Int) (by omega) (by omega) (by rw [hz2]; omega) (by omega)
  rw [hz1] at this
  simpa using this
/-- Zero. -/
def zeroWd : Nst Wd := ⟨none, 0, ⟨#[]⟩, [], false⟩
theorem zeroWd_cells : ∀ (j : Nat) (u : Value), (wdCl zeroWd)[j]? = some u → (Value.agg #[.string ⟨#[]⟩, .slice none 0 0, .bool false]).cells[j]? = some u := by
  have e : (Value.agg #[.string ⟨#[]⟩, .slice none 0 0, .bool false]).cells = #[.string ⟨#[]⟩, .slice none 0 0, .bool false] := by kernel_rfl
  intro j u hu
  rw [e]
  have : (wdCl zeroWd) = [.string ⟨#[]⟩, .slice none 0 0, .bool false] := rfl
  rw [this] at hu
  simpa using hu
/-- The words copied so far. -/
def CopW (wr : World) (b : Nat) (rs : List (Nst Wd)) (k : Nat) (f : Nat → Nst Wd) : Prop :=
  RowG 3 wdCl wr b 0 rs.length f ∧ (∀ i (h : i < rs.length), i < k → (f i).m = rs[i].m ∧ OwnN wr (b + 1) (Sv Wd.acks (f i)) (f i).m.acks) ∧ ∀ i j, i < k → j < k → i < j → (f i).m.acks = [] ∨ (f j).m.acks = [] ∨ blockOf (Sv Wd.acks (f i)) ≠ blockOf (Sv Wd.acks (f j))
theorem CopW.step {wr w2 : World} {b k : Nat} {rs : List (Nst Wd)} {f : Nat → Nst Wd} (h : CopW wr b rs k f) (hk : k < rs.length) (hb2 : Below wr.heap.size wr w2) (hbw : b < wr.heap.size) {qa : Option Addr} {qc : Nat} (ho : OwnN w2 wr.heap.size (.slice qa rs[k].m.acks.length qc) rs[k].m.acks) :
    CopW (((w2.setCell ⟨b, k * 3, none⟩ (.string rs[k].m.data)).setCell ⟨b, k * 3 + 1, none⟩ (.slice qa rs[k].m.acks.length qc)).setCell ⟨b, k * 3 + 2, none⟩ (.bool rs[k].m.done)) b rs (k + 1) (putG f k ⟨qa, qc, rs[k].m⟩) := by
  obtain ⟨h1, h2, h3⟩ := h
  have far : ∀ {base : Nat} {v : Value} {xs : List Int}, OwnN w2 base v xs → b < base → OwnN (((w2.setCell ⟨b, k * 3, none⟩ (.string rs[k].m.data)).setCell ⟨b, k * 3 + 1, none⟩ (.slice qa rs[k].m.acks.length qc)).setCell ⟨b, k * 3 + 2, none⟩ (.bool rs[k].m.done)) base v xs := fun {base v xs} q hb => ((q.far hb _).far hb _).far hb _
  refine ⟨?_, fun i hi hik => ?_, fun i j hi hj hij => ?_⟩
  · have r1 := (h1.below hb2).put wdCl_len hk 0 (by decide) (.string rs[k].m.data) ⟨(f k).a, (f k).c, ⟨rs[k].m.data, (f k).m.acks, (f k).m.done⟩⟩ rfl
    have r2 := r1.put wdCl_len hk 1 (by decide) (.slice qa rs[k].m.acks.length qc) ⟨qa, qc, ⟨rs[k].m.data, rs[k].m.acks, (f k).m.done⟩⟩ (by rw [putG_same]; rfl)
    have r3 := r2.put wdCl_len hk 2 (by decide) (.bool rs[k].m.done) ⟨qa, qc, rs[k].m⟩ (by rw [putG_same]; rfl)
    simpa [putG_twice] using r3
  · by_cases e : i = k
    · subst e
      rw [putG_same]
      exact ⟨rfl, far (ho.mono (by omega)) (by omega)⟩
    · rw [putG_ne _ _ e]
      have q := h2 i hi (by omega)
      exact ⟨q.1, far (q.2.below hb2) (by omega)⟩
  · by_cases e : j = k
    · subst e
      rw [putG_same, putG_ne _ _ (by omega)]
      have q := h2 i (by omega) (by omega)
      rcases q.2.bs.lt with h | h
      · exact .inl h
      · rcases ho.ge with h' | h'
        · exact .inr (.inl h')
        · right; right
          have e1 : blockOf (Sv Wd.acks (⟨qa, qc, rs[j].m⟩ : Nst Wd)) = blockOf (.slice qa rs[j].m.acks.length qc) := rfl
          rw [e1]
          omega
    · rw [putG_ne _ _ e, putG_ne _ _ (by omega)]
      exact h3 i j (by omega) (by omega) hij
end Go.Proofs.YthndkkjgjhgdnaaGreatDoor
namespace Go.Proofs.YthndkkjgjhgdnaaGreatDoor
open Go.ChangeShapes Go.WideShapes Go.ChangeAt Go.RowKit
set_option linter.unusedVariables false
set_option linter.unusedSimpArgs false
set_option maxRecDepth 100000

/-- How many words are done ahead of the first that is not. -/
def sureL : List Wd → Nat
  | [] => 0
  | e :: l => if e.done then sureL l + 1 else 0
theorem sureL_at : ∀ (ms : List Wd) (k : Nat) (hk : k ≤ ms.length), (∀ i (h : i < ms.length), i < k → ms[i].done = true) → (∀ h : k < ms.length, ms[k].done = false) → sureL ms = k
  | [], k, hk, _, _ => by simp at hk; simp [sureL, hk]
  | e :: l, 0, _, _, h2 => by
    have := h2 (by simp)
    simp only [List.getElem_cons_zero] at this
    simp [sureL, this]
  | e :: l, k + 1, hk, h1, h2 => by
    have h0 := h1 0 (by simp) (by omega)
    simp only [List.getElem_cons_zero] at h0
    have ih := sureL_at l k (by simpa using hk) (fun i h hi => by have q := h1 (i + 1) (by simpa using h) (by omega); simp only [List.getElem_cons_succ] at q; exact q) (fun h => by have q := h2 (by simpa using h); simp only [List.getElem_cons_succ] at q; exact q)
    simp [sureL, h0, ih]
/-- What is there at an offset: nothing, a word that is done, a word that is open. -/
theorem taDone_nil (w : World) : (Instr.typeAssert .nilIface 20 171 true).run Tryz.prog w = .ok (.tuple #[.agg #[], .bool false]) w := by kernel_rfl
theorem taDone_yes (w : World) : (Instr.typeAssert (.iface 171 (.agg #[])) 20 171 true).run Tryz.prog w = .ok (.tuple #[.agg #[], .bool true]) w := by kernel_rfl
theorem taDone_open (v : Value) (w : World) : (Instr.typeAssert (.iface 202 v) 20 171 true).run Tryz.prog w = .ok (.tuple #[.agg #[], .bool false]) w := by kernel_rfl
theorem taOpen_nil (w : World) : (Instr.typeAssert .nilIface 20 202 true).run Tryz.prog w = .ok (.tuple #[.agg #[.pointer none], .bool false]) w := by kernel_rfl
theorem taOpen_done (w : World) : (Instr.typeAssert (.iface 171 (.agg #[])) 20 202 true).run Tryz.prog w = .ok (.tuple #[.agg #[.pointer none], .bool false]) w := by kernel_rfl
theorem taOpen_yes (v : Value) (w : World) : (Instr.typeAssert (.iface 202 v) 20 202 true).run Tryz.prog w = .ok (.tuple #[v, .bool true]) w := by kernel_rfl
set_option maxHeartbeats 2000000 in
theorem winAt_no (b o : Nat) (a : Option Addr) (n cap : Nat) (x : Int) (w : World) (hc : w.cell? ⟨b, o + 2, none⟩ = some (.slice a n cap)) (hx : ¬ (1 ≤ x ∧ x ≤ (n : Int))) :
    Calls Tryz.prog 112 #[.pointer (some ⟨b, o, none⟩), .int .i64 x] w fun e w' => e = .returned .nilIface ∧ w' = w := by
  by_cases h1 : x < 1
  · go_enter Tryz.func112, Tryz.ntmps112
    go_wp2
    go_ret
    exact ⟨rfl, rfl⟩
  · have h2 : (n : Int) < x := by omega
    go_enter Tryz.func112, Tryz.ntmps112
    go_wp2
    go_ret
    exact ⟨rfl, rfl⟩
set_option maxHeartbeats 2000000 in
theorem winAt_done (b o b' off n cap k : Nat) (w : World) (hc : w.cell? ⟨b, o + 2, none⟩ = some (.slice (some ⟨b', off, none⟩) n cap)) (hk : k < n) (hn : n ≤ 9223372036854775807) (hd : w.cell? ⟨b', off + k * 3 + 2, none⟩ = some (.bool true)) :
    Calls Tryz.prog 112 #[.pointer (some ⟨b, o, none⟩), .int .i64 ((k : Int) + 1)] w fun e w' => e = .returned (.iface 171 (.agg #[])) ∧ w' = w := by
  have h1 : ¬ ((k : Int) + 1 < 1) := by omega
  have h2 : ¬ ((n : Int) < (k : Int) + 1) := by omega
  have h3 : (k : Int) + 1 - 1 = (k : Int) := by omega
  have h4 : (k : Int) < (n : Int) := by omega
  go_enter Tryz.func112, Tryz.ntmps112
  go_wp2
  go_ret
  exact ⟨rfl, rfl⟩
set_option maxHeartbeats 2000000 in
theorem winAt_open (b o b' off n cap k : Nat) (w : World) (hc : w.cell? ⟨b, o + 2, none⟩ = some (.slice (some ⟨b', off, none⟩) n cap)) (hk : k < n) (hn : n ≤ 9223372036854775807) (hd : w.cell? ⟨b', off + k * 3 + 2, none⟩ = some (.bool false)) :
    Calls Tryz.prog 112 #[.pointer (some ⟨b, o, none⟩), .int .i64 ((k : Int) + 1)] w fun e w' => e = .returned (.iface 202 (.agg #[.pointer (some ⟨b', off + k * 3, none⟩)])) ∧ w' = w := by
  have h1 : ¬ ((k : Int) + 1 < 1) := by omega
  have h2 : ¬ ((n : Int) < (k : Int) + 1) := by omega
  have h3 : (k : Int) + 1 - 1 = (k : Int) := by omega
  have h4 : (k : Int) < (n : Int) := by omega
  go_enter Tryz.func112, Tryz.ntmps112
  go_wp2
  go_ret
  exact ⟨rfl, rfl⟩
set_option maxHeartbeats 2000000 in
theorem winDone_any (b o n cap : Nat) (a : Option Addr) (rs : List (Nst Wd)) (k : Nat) (w : World) (hc : w.cell? ⟨b, o + 2, none⟩ = some (.slice a n cap)) (hr : Rw 3 wdCl w (.slice a n cap) rs) (hn : n = rs.length) :
    Calls Tryz.prog 74 #[.pointer (some ⟨b, o, none⟩), .int .i64 ((k : Int) + 1)] w fun e w' => e = .returned (.bool (decide (∃ h : k < rs.length, rs[k].m.done = true))) ∧ Below w.heap.size w w' := by
  have ba : ∀ o, Below w.heap.size w (w.alloc o) := fun o => (Below.refl _ _).alloc (Nat.le_refl _) o
  have t1 := taDone_nil
  have t2 := taDone_yes
  have t3 := taDone_open
  subst hn
  have hl := hr.1
  by_cases hk : k < rs.length
  · obtain ⟨b', off, rfl, he⟩ := hr.word hk
    have c1 := (he k hk).2.2
    cases hd : rs[k].m.done with
    | true =>
      rw [hd] at c1
      rw [show decide (∃ h : k < rs.length, rs[k].m.done = true) = true from decide_eq_true ⟨hk, hd⟩]
      have C1 := dHide (winAt_done b o b' off rs.length cap k w hc hk hl c1)
      clear c1 he hr
      go_enter Tryz.func74, Tryz.ntmps74
      go_wp2_with fail
      refine (dUnhide C1).mono ?_
      rintro e w1 ⟨rfl, rfl⟩
      go_wp2
      go_ret
      exact ⟨rfl, ba _⟩
    | false =>
      rw [hd] at c1
      rw [show decide (∃ h : k < rs.length, rs[k].m.done = true) = false from decide_eq_false (fun ⟨h, h'⟩ => by rw [hd] at h'; cases h')]
      have C1 := dHide (winAt_open b o b' off rs.length cap k w hc hk hl c1)
      clear c1 he hr
      go_enter Tryz.func74, Tryz.ntmps74
      go_wp2_with fail
      refine (dUnhide C1).mono ?_
      rintro e w1 ⟨rfl, rfl⟩
      go_wp2
      go_ret
      exact ⟨rfl, ba _⟩
  · rw [show decide (∃ h : k < rs.length, rs[k].m.done = true) = false from decide_eq_false (fun ⟨h, h'⟩ => hk h)]
    have C1 := dHide (winAt_no b o a rs.length cap ((k : Int) + 1) w hc (by omega))
    clear hr
    go_enter Tryz.func74, Tryz.ntmps74
    go_wp2_with fail
    refine (dUnhide C1).mono ?_
    rintro e w1 ⟨rfl, rfl⟩
    go_wp2
    go_ret
    exact ⟨rfl, ba _⟩
set_option maxHeartbeats 2000000 in
theorem winSure_any (b o cap : Nat) (a : Option Addr) (rs : List (Nst Wd)) (w : World) (hl : rs.length ≤ 1073741824) (hc : w.cell? ⟨b, o + 2, none⟩ = some (.slice a rs.length cap)) (hr : Rw 3 wdCl w (.slice a rs.length cap) rs) :
    Calls Tryz.prog 41 #[.pointer (some ⟨b, o, none⟩)] w fun e w' => e = .returned (.int .i64 (sureL (rs.map Nst.m) : Int)) ∧ Below w.heap.size w w' := by
  have hl0 := hr.1
  have FA : Hid (∀ k (hk : k ≤ rs.length), (∀ i (h : i < rs.length), i < k → rs[i].m.done = true) → (∀ h : k < rs.length, rs[k].m.done = false) → sureL (rs.map Nst.m) = k) := fun k hk h1 h2 => sureL_at _ k (by simpa using hk) (fun i hi hik => by rw [List.getElem_map]; exact h1 i (by simpa using hi) hik) (fun h => by rw [List.getElem_map]; exact h2 (by simpa using h))
  generalize sureL (rs.map Nst.m) = F at *
  have CD := dHide fun k W (hb : Below w.heap.size w W) => winDone_any b o rs.length cap a rs k W ((hb.cell (p := ⟨b, o + 2, none⟩) (dCell_lt hc)).trans hc) (hr.below hb) rfl
  clear hc hr
  go_enter Tryz.func41, Tryz.ntmps41
  go_wp2
  go_loopw [3] (fun x wr => ∃ k : Nat, x = .int .i64 (k : Int) ∧ k ≤ rs.length ∧ Hid (∀ i (h : i < rs.length), i < k → rs[i].m.done = true) ∧ Below w.heap.size w wr) (fun x _ => rs.length - (intOf x).toNat)
  case atStart => exact ⟨0, rfl, Nat.zero_le _, fun i h h' => by omega, Below.refl _ _⟩
  case round =>
    obtain ⟨k, rfl, hk, hc, hb⟩ := hrel
    have C1 := dUnhide CD k wr hb
    by_cases hd : ∃ h : k < rs.length, rs[k].m.done = true
    · rw [decide_eq_true hd] at C1
      obtain ⟨hkl, hcl⟩ := hd
      have H2 : Hid (∀ i (h : i < rs.length), i < k + 1 → rs[i].m.done = true) := fun i h hi => by
        by_cases e : i = k
        · subst e; exact hcl
        · exact dUnhide hc i h (by omega)
      replace C1 := dHide C1
      have h9 : (k : Int) + 1 ≤ 9223372036854775807 := by omega
      clear hc hcl
      go_wp2_with fail
      refine (dUnhide C1).mono ?_
      rintro e w1 ⟨rfl, b1⟩
      go_wp2
      go_roundw
      case rel => exact ⟨k + 1, by go_num, by omega, H2, belowThen hb b1⟩
      case measure => simp [intOf]; omega
    · rw [decide_eq_false hd] at C1
      have e1 := dUnhide FA k hk (dUnhide hc) (fun h => by
        cases hx : rs[k].m.done with
        | true => exact absurd ⟨h, hx⟩ hd
        | false => rfl)
      have e2 : Hid ((F : Int) = (k : Int)) := by rw [Hid, e1]
      replace C1 := dHide C1
      have h9 : (k : Int) + 1 ≤ 9223372036854775808 := by omega
      clear hc FA e1 hd
      go_wp2_with fail
      refine (dUnhide C1).mono ?_
      rintro e w1 ⟨rfl, b1⟩
      go_wp2
      go_ret
      exact ⟨by rw [dUnhide e2]; rfl, belowThen hb b1⟩
/-- A writing: a new block of four cells. -/
theorem writingOf_any (ca : Option Addr) (cn cc : Nat) (cop e : Int) (a : Option Addr) (n cap : Nat) (w : World) :
    Calls Tryz.prog 40 #[.agg #[.slice ca cn cc, .int .i64 cop], .agg #[.int .i64 e, .slice a n cap]] w fun r w' => (∃ b, r = .returned (.pointer (some ⟨b, 0, none⟩)) ∧ BxZ w' w.heap.size b [.int .i64 e, .slice ca cn cc, .int .i64 cop, .slice a n cap]) ∧ Below w.heap.size w w' := by
  have ba : ∀ (w : World) o, Below w.heap.size w (w.alloc o) := fun w o => (Below.refl _ _).alloc (Nat.le_refl _) o
  go_enter Tryz.func40, Tryz.ntmps40
  go_wp2
  go_ret
  refine ⟨⟨_, rfl, ?_⟩, belowThen (belowThen (ba w _) (ba _ _)) (ba _ _)⟩
  have q := BxZ.new (B := w.heap.size) ((w.alloc (.cells #[.slice ca cn cc, .int .i64 cop] 26)).alloc (.cells #[.int .i64 e, .slice a n cap] 40)) [.int .i64 e, .slice ca cn cc, .int .i64 cop, .slice a n cap] 90 (by simp <;> omega)
  simpa using q
set_option maxHeartbeats 2000000 in
theorem implSure_any (v : Value) (m : Wt) (w : World) (hl : m.words.length ≤ 1073741824) (hv : RdWriter v m w) :
    Calls Tryz.prog 16 #[v] w fun e w' => e = .returned (.int .i64 (sureL m.words : Int)) ∧ Below w.heap.size w w' := by
  obtain ⟨sv, rfl, rs, hm, hr, -⟩ := hv
  have ba : ∀ (w : World) o, Below w.heap.size w (w.alloc o) := fun w o => (Below.refl _ _).alloc (Nat.le_refl _) o
  have el : rs.length ≤ 1073741824 := by rw [← hm, List.length_map] at hl; exact hl
  rw [← hm]
  clear hm hl
  have HR := dHide fun W (hb : Below w.heap.size w W) => hr.below hb
  obtain ⟨-, a, cap, rfl, -, -⟩ := hr
  have CW := dHide fun W => writingOf_any none 0 0 0 m.epoch a rs.length cap W
  have CS := dHide fun W b (hb : Below w.heap.size w W) hc => winSure_any b 1 cap a rs W el hc (dUnhide HR W hb)
  have bA := ba w (.cells #[.int .i64 m.epoch, .slice a rs.length cap] 40)
  clear HR
  go_enter Tryz.func16, Tryz.ntmps16
  go_wp2_with fail
  refine (dUnhide CW _).mono ?_
  rintro e w1 ⟨⟨b, rfl, X1⟩, b1⟩
  have B1 := belowThen bA b1
  have C2 := dHide (dUnhide CS w1 b B1 (X1.2 3 _ rfl).1)
  clear CW CS b1 X1
  go_wp2_with fail
  refine (dUnhide C2).mono ?_
  rintro e w2 ⟨rfl, b2⟩
  go_wp2
  go_ret
  exact ⟨rfl, belowThen B1 b2⟩
end Go.Proofs.YthndkkjgjhgdnaaGreatDoor
namespace Go.Proofs.YthndkkjgjhgdnaaGreatDoor
open Go.ChangeShapes Go.WideShapes Go.ChangeAt Go.RowKit
set_option linter.unusedVariables false
set_option linter.unusedSimpArgs false
set_option maxRecDepth 100000

/-- Eras that may be appended to, in memory from base on, each list apart. -/
def WAp (w : World) (base : Nat) (v : Value) (ms : List Wd) : Prop :=
  ∃ rs : List (Nst Wd), rs.map Nst.m = ms ∧ ApR 82 3 wdCl w base v rs ∧ (∀ p ∈ rs, OwnN w base (Sv Wd.acks p) p.m.acks) ∧
    (∀ i j (hi : i < rs.length) (hj : j < rs.length), i ≠ j → rs[i].m.acks = [] ∨ rs[j].m.acks = [] ∨ blockOf (Sv Wd.acks rs[i]) ≠ blockOf (Sv Wd.acks rs[j])) ∧ ∀ i (hi : i < rs.length), rs[i].m.acks = [] ∨ touch v ≠ some (blockOf (Sv Wd.acks rs[i]))
theorem WAp.nil (w : World) (base : Nat) (a : Option Addr) : WAp w base (.slice a 0 0) [] := ⟨[], rfl, .inl ⟨rfl, a, rfl⟩, (fun p h => by cases h), (fun i j hi => by simp at hi), fun i hi => by simp at hi⟩
theorem WAp.below {w w' : World} {base : Nat} {v : Value} {ms : List Wd} (h : WAp w base v ms) (hb : Below w.heap.size w w') : WAp w' base v ms := by
  obtain ⟨rs, h1, h2, h3, h4, h5⟩ := h
  exact ⟨rs, h1, h2.below hb, fun p hp => (h3 p hp).below hb, h4, h5⟩
theorem WAp.mono {w : World} {base base' : Nat} {v : Value} {ms : List Wd} (h : WAp w base v ms) (hb : base' ≤ base) : WAp w base' v ms := by
  obtain ⟨rs, h1, h2, h3, h4, h5⟩ := h
  exact ⟨rs, h1, h2.mono hb, fun p hp => (h3 p hp).mono hb, h4, h5⟩
theorem WAp.far {w : World} {base b o : Nat} {v : Value} {ms : List Wd} (h : WAp w base v ms) (hb : b < base) (u : Value) : WAp (w.setCell ⟨b, o, none⟩ u) base v ms := by
  obtain ⟨rs, h1, h2, h3, h4, h5⟩ := h
  exact ⟨rs, h1, ApR.far elemW h2 hb u, fun p hp => (h3 p hp).far hb u, h4, h5⟩
theorem WAp.slice {w : World} {base : Nat} {v : Value} {ms : List Wd} (h : WAp w base v ms) : ∃ a c, v = .slice a ms.length c := by
  obtain ⟨rs, h1, h2, -⟩ := h
  obtain ⟨a, c, e⟩ := ApR.slice elemW h2
  exact ⟨a, c, by rw [e, ← h1, List.length_map]⟩
theorem WAp.touched {w : World} {base : Nat} {v : Value} {ms : List Wd} (h : WAp w base v ms) {k : Nat} (hk : touch v = some k) : base ≤ k ∧ k < w.heap.size := by
  obtain ⟨rs, h1, h2, -⟩ := h
  exact h2.touched elemW hk
/-- What an append leaves. -/
theorem WAp.pushX {wr w4 w5 : World} {base : Nat} {v v' : Value} {ms : List Wd} {p : Nst Wd} {rs : List (Nst Wd)} (h1 : rs.map Nst.m = ms) (h2 : ApR 82 3 wdCl wr base v rs) (h3 : ∀ p ∈ rs, OwnN wr base (Sv Wd.acks p) p.m.acks)
    (h4 : ∀ i j (hi : i < rs.length) (hj : j < rs.length), i ≠ j → rs[i].m.acks = [] ∨ rs[j].m.acks = [] ∨ blockOf (Sv Wd.acks rs[i]) ≠ blockOf (Sv Wd.acks rs[j])) (h5 : ∀ i (hi : i < rs.length), rs[i].m.acks = [] ∨ touch v ≠ some (blockOf (Sv Wd.acks rs[i])))
    (hw : ∀ p ∈ rs, OwnN w4 base (Sv Wd.acks p) p.m.acks) (hsz : wr.heap.size ≤ w4.heap.size) (hbw : base ≤ wr.heap.size) (ho : OwnN w4 wr.heap.size (Sv Wd.acks p) p.m.acks)
    (hP : ApR 82 3 wdCl w5 base v' (rs ++ [p])) (hg : w4.grownBy w5 (touch v)) (ht : touch v' = touch v ∨ ∀ k, touch v' = some k → w4.heap.size ≤ k) :
    (rs ++ [p]).map Nst.m = ms ++ [p.m] ∧ ApR 82 3 wdCl w5 base v' (rs ++ [p]) ∧ (∀ q ∈ rs ++ [p], OwnN w5 base (Sv Wd.acks q) q.m.acks) ∧
      (∀ i j (hi : i < (rs ++ [p]).length) (hj : j < (rs ++ [p]).length), i ≠ j → (rs ++ [p])[i].m.acks = [] ∨ (rs ++ [p])[j].m.acks = [] ∨ blockOf (Sv Wd.acks (rs ++ [p])[i]) ≠ blockOf (Sv Wd.acks (rs ++ [p])[j])) ∧ ∀ i (hi : i < (rs ++ [p]).length), (rs ++ [p])[i].m.acks = [] ∨ touch v' ≠ some (blockOf (Sv Wd.acks (rs ++ [p])[i])) := by
  have tv : ∀ k, touch v = some k → k < wr.heap.size := fun k hk => (h2.touched elemW hk).2
  have new : p.m.acks = [] ∨ touch v ≠ some (blockOf (Sv Wd.acks p)) := by
    rcases ho.ge with h | h
    · exact .inl h
    · right
      intro e
      have := tv _ e
      omega
  have old : ∀ i (hi : i < rs.length), rs[i].m.acks = [] ∨ blockOf (Sv Wd.acks rs[i]) < wr.heap.size := fun i hi => (h3 _ (List.getElem_mem hi)).bs.lt
  refine ⟨by rw [List.map_append, h1]; rfl, hP, fun q hq => ?_, fun i j hi hj hij => ?_, fun i hi => ?_⟩
  · rcases List.mem_append.1 hq with hq | hq
    · obtain ⟨i, hi, rfl⟩ := List.mem_iff_getElem.1 hq
      exact (hw _ hq).grown hg (h5 i hi)
    · obtain rfl : q = p := by simpa using hq
      exact (ho.mono hbw).grown hg new
  · have hl : (rs ++ [p]).length = rs.length + 1 := by simp
    by_cases e1 : i < rs.length
    · by_cases e2 : j < rs.length
      · simp only [List.getElem_append_left e1, List.getElem_append_left e2]
        exact h4 i j e1 e2 hij
      · have e3 : j = rs.length := by omega
        subst e3
        simp only [List.getElem_append_left e1, List.getElem_concat_length]
        rcases old i e1 with h | h
        · exact .inl h
        · rcases ho.ge with h' | h'
          · exact .inr (.inl h')
          · exact .inr (.inr (by omega))
    · have e3 : i = rs.length := by omega
      subst e3
      have e2 : j < rs.length := by omega
      simp only [List.getElem_append_left e2, List.getElem_concat_length]
      rcases old j e2 with h | h
      · exact .inr (.inl h)
      · rcases ho.ge with h' | h'
        · exact .inl h'
        · exact .inr (.inr (by omega))
  · have hl : (rs ++ [p]).length = rs.length + 1 := by simp
    by_cases e1 : i < rs.length
    · simp only [List.getElem_append_left e1]
      rcases ht with ht | ht
      · rw [ht]; exact h5 i e1
      · rcases old i e1 with h | h
        · exact .inl h
        · right
          intro e
          have := ht _ e
          omega
    · have e3 : i = rs.length := by omega
      subst e3
      simp only [List.getElem_concat_length]
      rcases ht with ht | ht
      · rw [ht]; exact new
      · rcases ho.bs.lt with h | h
        · exact .inl h
        · right
          intro e
          have := ht _ e
          omega
theorem WAp.push {wr w4 w5 : World} {base : Nat} {v v' : Value} {ms : List Wd} {p : Nst Wd} {rs : List (Nst Wd)} (h1 : rs.map Nst.m = ms) (h2 : ApR 82 3 wdCl wr base v rs) (h3 : ∀ p ∈ rs, OwnN wr base (Sv Wd.acks p) p.m.acks)
    (h4 : ∀ i j (hi : i < rs.length) (hj : j < rs.length), i ≠ j → rs[i].m.acks = [] ∨ rs[j].m.acks = [] ∨ blockOf (Sv Wd.acks rs[i]) ≠ blockOf (Sv Wd.acks rs[j])) (h5 : ∀ i (hi : i < rs.length), rs[i].m.acks = [] ∨ touch v ≠ some (blockOf (Sv Wd.acks rs[i])))
    (hw : ∀ p ∈ rs, OwnN w4 base (Sv Wd.acks p) p.m.acks) (hsz : wr.heap.size ≤ w4.heap.size) (hbw : base ≤ wr.heap.size) (ho : OwnN w4 wr.heap.size (Sv Wd.acks p) p.m.acks)
    (hP : ApR 82 3 wdCl w5 base v' (rs ++ [p])) (hg : w4.grownBy w5 (touch v)) (ht : touch v' = touch v ∨ ∀ k, touch v' = some k → w4.heap.size ≤ k) : WAp w5 base v' (ms ++ [p.m]) := ⟨rs ++ [p], WAp.pushX h1 h2 h3 h4 h5 hw hsz hbw ho hP hg ht⟩
/-- .. and a block elsewhere is written. -/
theorem WAp.pushO {wr w4 w5 : World} {base : Nat} {v v' : Value} {ms : List Wd} {p : Nst Wd} {rs : List (Nst Wd)} (h1 : rs.map Nst.m = ms) (h2 : ApR 82 3 wdCl wr base v rs) (h3 : ∀ p ∈ rs, OwnN wr base (Sv Wd.acks p) p.m.acks)
    (h4 : ∀ i j (hi : i < rs.length) (hj : j < rs.length), i ≠ j → rs[i].m.acks = [] ∨ rs[j].m.acks = [] ∨ blockOf (Sv Wd.acks rs[i]) ≠ blockOf (Sv Wd.acks rs[j])) (h5 : ∀ i (hi : i < rs.length), rs[i].m.acks = [] ∨ touch v ≠ some (blockOf (Sv Wd.acks rs[i])))
    (hw : ∀ p ∈ rs, OwnN w4 base (Sv Wd.acks p) p.m.acks) (hsz : wr.heap.size ≤ w4.heap.size) (hbw : base ≤ wr.heap.size) (ho : OwnN w4 wr.heap.size (Sv Wd.acks p) p.m.acks)
    (hP : ApR 82 3 wdCl w5 base v' (rs ++ [p])) (hg : w4.grownBy w5 (touch v)) (ht : touch v' = touch v ∨ ∀ k, touch v' = some k → w4.heap.size ≤ k)
    {b o : Nat} (hb1 : touch v ≠ some b) (hb2 : ∀ q ∈ rs ++ [p], q.m.acks = [] ∨ blockOf (Sv Wd.acks q) ≠ b) (hb4 : b < w4.heap.size) (u : Value) : WAp (w5.setCell ⟨b, o, none⟩ u) base v' (ms ++ [p.m]) := by
  obtain ⟨x1, x2, x3, x4, x5⟩ := WAp.pushX h1 h2 h3 h4 h5 hw hsz hbw ho hP hg ht
  refine ⟨rs ++ [p], x1, x2.put elemW (fun e => ?_) u, fun q hq => (x3 q hq).grown (grown_set w5 b o u) ?_, x4, x5⟩
  · rcases ht with ht | ht
    · exact hb1 (ht ▸ e)
    · have := ht _ e
      omega
  · rcases hb2 q hq with h | h
    · exact .inl h
    · exact .inr fun e => h (Option.some.inj e).symm
/-- Such a row is owned. -/
theorem WAp.ow {w : World} {base : Nat} {v : Value} {ms : List Wd} (h : WAp w base v ms) : OwWordS base w.heap.size v ms w := by
  obtain ⟨rs, h1, h2, h3, h4, h5⟩ := h
  have o := ApR.own elemW h2
  refine ⟨rs, h1, o, o.ltG wdCl_len (by decide), fun p hp => ⟨h3 p hp, (h3 p hp).bs.lt⟩, h4, fun i hi => ?_⟩
  rcases h5 i hi with h | h
  · exact .inl h
  · right
    intro e
    apply h
    rcases h2 with ⟨h0, -⟩ | hu
    · subst h0; simp at hi
    · rcases hu.2 with ⟨-, h0⟩ | ⟨g, cap, cur, rfl, -, -, hnc, -⟩
      · omega
      · have hc : cap ≠ 0 := by omega
        rw [e]
        simp [touch, hc, blockOf]
set_option maxHeartbeats 8000000 in
theorem l8Copy_any (v : Value) (m : Wt) (w : World) (hv : RdWriter v m w) (hs : sizWriter m ≤ 1048576) :
    Calls Tryz.prog 113 #[v] w fun e w' => (∃ u, e = .returned (.agg #[.int .i64 m.epoch, u]) ∧ WAp w' w.heap.size u m.words) ∧ Below w.heap.size w w' := by
  obtain ⟨sv, rfl, rs, hm, hr, hn⟩ := hv
  have hle : rs.length ≤ 1048576 := by unfold sizWriter sizWordS at hs; rw [← hm, List.length_map] at hs; omega
  have HL : Hid (∀ k (hk : k < rs.length), rs[k].m.acks.length ≤ 1048576) := fun k hk => by
    have h1 := sumW_mem (ms := rs.map Nst.m) (k := k) (by simpa using hk)
    rw [List.getElem_map] at h1
    unfold sizWriter sizWordS at hs
    rw [← hm] at hs
    omega
  have HR := dHide fun W (hb : Below w.heap.size w W) => hr.below hb
  have HN := dHide fun W (hb : Below w.heap.size w W) k (hk : k < rs.length) => (hn _ (List.getElem_mem hk)).below hb
  obtain ⟨-, a, cap, rfl, -, -⟩ := hr
  generalize m.epoch = tr at *
  rw [← hm]
  have ba : ∀ (w : World) o, Below w.heap.size w (w.alloc o) := fun w o => (Below.refl _ _).alloc (Nat.le_refl _) o
  clear hm hn hs
  have B0 := belowThen (belowThen (ba w (.cells #[.int .i64 tr, .slice a rs.length cap] 40)) (ba _ (.cells #[.int .i64 0, .slice none 0 0] 40))) (ba _ (.cells #[.int .i64 tr, .slice none 0 0] 40))
  have X0 := dHide ((Bx.new w [.int .i64 tr, .slice a rs.length cap] 40).below (belowThen (ba _ (.cells #[.int .i64 0, .slice none 0 0] 40)) (ba _ (.cells #[.int .i64 tr, .slice none 0 0] 40))))
  have Y0 := (BxZ.new (B := w.heap.size) (w.alloc (.cells #[.int .i64 tr, .slice a rs.length cap] 40)) [.int .i64 0, .slice none 0 0] 40 (by simp)).below (ba _ (.cells #[.int .i64 tr, .slice none 0 0] 40))
  have Z0 := BxZ.new (B := w.heap.size) ((w.alloc (.cells #[.int .i64 tr, .slice a rs.length cap] 40)).alloc (.cells #[.int .i64 0, .slice none 0 0] 40)) [.int .i64 tr, .slice none 0 0] 40 (by simp <;> omega)
  have e1 : (w.alloc (.cells #[.int .i64 tr, .slice a rs.length cap] 40)).heap.size = w.heap.size + 1 := by simp
  have e2 : ((w.alloc (.cells #[.int .i64 tr, .slice a rs.length cap] 40)).alloc (.cells #[.int .i64 0, .slice none 0 0] 40)).heap.size = w.heap.size + 1 + 1 := by simp
  rw [e1] at Y0
  rw [e2] at Z0
  replace Y0 := dHide Y0
  replace Z0 := dHide Z0
  clear e1 e2
  have k1 := dUnhide X0 0 _ rfl
  go_enter Tryz.func113, Tryz.ntmps113
  go_wp2
  have hs0 : Hid (w.heap.size + 1 + 1 + 1 = (((w.alloc (.cells #[.int .i64 tr, .slice a rs.length cap] 40)).alloc (.cells #[.int .i64 0, .slice none 0 0] 40)).alloc (.cells #[.int .i64 tr, .slice none 0 0] 40)).heap.size) := by simp [Hid]
  clear k1
  generalize ((w.alloc (.cells #[.int .i64 tr, .slice a rs.length cap] 40)).alloc (.cells #[.int .i64 0, .slice none 0 0] 40)).alloc (.cells #[.int .i64 tr, .slice none 0 0] 40) = w0 at *
  go_loopw [4] (fun x wr => ∃ (k : Nat) (oa : Option Addr) (oc : Nat), x = .int .i64 (k : Int) ∧ k ≤ rs.length ∧ Hid (WAp wr (w.heap.size + 3) (.slice oa k oc) ((rs.map Nst.m).take k)) ∧ Hid (Bx wr w.heap.size [.int .i64 tr, .slice a rs.length cap]) ∧ Hid (BxZ wr w.heap.size (w.heap.size + 1) [.int .i64 0, .slice none 0 0]) ∧ Hid (BxZ wr w.heap.size (w.heap.size + 1 + 1) [.int .i64 tr, .slice oa k oc]) ∧ w.heap.size + 3 ≤ wr.heap.size ∧ Below w.heap.size w wr) (fun x _ => rs.length - (intOf x).toNat)
  case atStart => exact ⟨0, none, 0, rfl, Nat.zero_le _, WAp.nil _ _ _, X0, Y0, Z0, by have := dUnhide hs0; omega, B0⟩
  case round =>
    obtain ⟨k, oa, oc, rfl, hk, hA, hX, hY, hZ, hsz, hb⟩ := hrel
    clear X0 Y0 Z0 B0 hs0
    have x0 := dUnhide hX 1 _ rfl
    by_cases hlt : (k : Int) < (rs.length : Int)
    · have hkl : k < rs.length := by omega
      obtain ⟨b, off, rfl, he⟩ := (dUnhide HR wr hb).word hkl
      obtain ⟨c0, c1, c2⟩ := he k hkl
      have bN := dHide fun W (hB : Below wr.heap.size wr W) => dUnhide HN W (belowThen hb hB) k hkl
      have hln := dUnhide HL k hkl
      have eT : Hid ((rs.map Nst.m).take (k + 1) = (rs.map Nst.m).take k ++ [rs[k].m]) := by rw [Hid, List.take_succ_eq_append_getElem (by simpa using hkl), List.getElem_map]
      unfold Sv at bN
      generalize rs[k] = y at *
      obtain ⟨ya, yc, yd, yn, yb⟩ := y
      simp only at bN hln c0 c1 c2 eT
      have bA := ba wr (.cells #[.string yd, .slice ya yn.length yc, .bool yb] 82)
      have bB := belowThen bA (ba _ (.cells #[] 3))
      have E1 := dHide ((BxZ.new (B := wr.heap.size) wr [.string yd, .slice ya yn.length yc, .bool yb] 82 (Nat.le_refl _)).below (ba _ (.cells #[] 3)))
      have q0 := ((dUnhide E1).2 1 _ rfl).1
      have hN1 := dUnhide bN _ bB
      clear he
      obtain ⟨r0, m1, m2, m3, m4, m5⟩ := dUnhide hA
      have hl0 : r0.length = k := by
        have := congrArg List.length m1
        rw [List.length_map, List.length_take, List.length_map] at this
        omega
      have tv : Hid (∀ j, touch (.slice oa k oc) = some j → w.heap.size + 3 ≤ j ∧ j < wr.heap.size) := fun j hj => m2.touched elemW hj
      have nt : Hid (touch (.slice oa k oc) ≠ some wr.heap.size) := fun e => by have := dUnhide tv _ e; omega
      have nt1 : Hid (∀ j, j < w.heap.size + 3 → touch (.slice oa k oc) ≠ some j) := fun j hj e => by have := dUnhide tv _ e; omega
      have M := dHide (And.intro m1 (And.intro m2 (And.intro m3 (And.intro m4 m5))))
      clear m1 m2 m3 m4 m5
      go_wp2_with (first
        | (at_builtin; refine wp_cpN rfl _ _ rfl _ rfl _ yn rfl hN1 (by omega) ?_; intro u w2 O2 b2; obtain ⟨-, ua, uc, rfl, -, -⟩ := O2.bs; have HO2 := dHide O2; have bC := belowThen bB b2; have E2 := dHide ((dUnhide E1).below b2); obtain ⟨f0, g0⟩ := (dUnhide E2).2 0 _ rfl; obtain ⟨f1, g1⟩ := (dUnhide E2).2 1 _ rfl; obtain ⟨f2, g2⟩ := (dUnhide E2).2 2 _ rfl; have Z2 := dHide ((dUnhide hZ).below bC); have z0 := ((dUnhide Z2).2 1 _ rfl).1; have hne1 : w.heap.size + 1 + 1 ≠ wr.heap.size := by omega
           have W2 := bC.size
           have P4 := dHide (((((dUnhide M).2.1.below bC).put elemW (b := wr.heap.size) (o' := 1) (dUnhide nt) (.slice ua yn.length uc)).below (ba _ (.cells #[.string yd, .slice ua yn.length uc, .bool yb] 82))))
           have RO := rwW_one (w2.setCell ⟨wr.heap.size, 1, none⟩ (.slice ua yn.length uc)) ⟨ua, uc, yd, yn, yb⟩ 82 1 (by omega)
           rw [World.size_setCell] at RO
           replace RO := dHide RO)
        | (at_builtin; refine wp_apR elemW rfl _ _ rfl (w.heap.size + 3) _ r0 rfl (dUnhide P4) _ [⟨ua, uc, yd, yn, yb⟩] rfl (dUnhide RO) (by simp; omega) (by simp; omega) (by simp; omega) ?_; intro v5 w5 P5 g5 t5
           obtain ⟨a5, c5, e5⟩ : ∃ a c, v5 = .slice a (k + 1) c := by
             obtain ⟨a, c, e⟩ := ApR.slice elemW P5
             exact ⟨a, c, by rw [e]; simp [hl0]⟩
           subst e5
           have NN : Hid (WAp w5 (w.heap.size + 3) (.slice a5 (k + 1) c5) ((rs.map Nst.m).take (k + 1))) := by
             rw [Hid, dUnhide eT]
             exact WAp.push (dUnhide M).1 (dUnhide M).2.1 (dUnhide M).2.2.1 (dUnhide M).2.2.2.1 (dUnhide M).2.2.2.2 (fun p hp => (((((dUnhide M).2.2.1 p hp).below bC).grown (grown_set w2 wr.heap.size 1 (.slice ua yn.length uc)) (by
               rcases ((dUnhide M).2.2.1 p hp).bs.lt with h | h
               · exact .inl h
               · exact .inr fun e => by have := Option.some.inj e; omega))).below (ba _ _)) (by simp; omega) hsz (((((dUnhide HO2).far (b := wr.heap.size) (o := 1) (by simp; omega) (.slice ua yn.length uc)).below (ba _ _)).mono (by simp; omega))) P5 g5 t5
           have Z5 := dHide ((((dUnhide Z2).far (b' := wr.heap.size) (o := 1) (by omega) (.slice ua yn.length uc)).below (ba _ _)).grown g5 (dUnhide nt1 _ (by omega)))
           have Y5 := dHide (((((dUnhide hY).below bC).far (b' := wr.heap.size) (o := 1) (by omega) (.slice ua yn.length uc)).below (ba _ _)).grown g5 (dUnhide nt1 _ (by omega)))
           have X5 := dHide (((((dUnhide hX).below bC).farB (b' := wr.heap.size) (o := 1) (by omega) (.slice ua yn.length uc)).below (ba _ _)).grown g5 (dUnhide nt1 _ (by omega)))
           have B5 := dHide (((belowThen ((belowThen hb bC).setCell (p := ⟨wr.heap.size, 1, none⟩) (by simp only; omega) (.slice ua yn.length uc)) (ba _ (.cells #[.string yd, .slice ua yn.length uc, .bool yb] 82)))).grown g5 (by simp; omega) (fun j hj => by have := dUnhide tv _ hj; omega))
           have S5 : w.heap.size + 3 ≤ w5.heap.size := by
             have := g5.size
             simp at this
             omega
           obtain ⟨y0', p0'⟩ := (dUnhide Z5).2 1 _ rfl))
      go_roundw
      case rel => exact ⟨k + 1, a5, c5, by go_num, by omega, (dUnhide NN).far (by omega) _, (dUnhide X5).farB (by omega) _, (dUnhide Y5).far (by omega) _, (dUnhide Z5).put 1 _, by rw [World.size_setCell]; exact S5, (dUnhide B5).setCell (p := ⟨w.heap.size + 1 + 1, 1, none⟩) (by simp only; omega) _⟩
      case measure => simp [intOf]; omega
    · have ek : k = rs.length := by omega
      subst ek
      have eT : (rs.map Nst.m).take rs.length = rs.map Nst.m := List.take_of_length_le (by simp)
      rw [eT] at hA
      obtain ⟨z0, s0⟩ := (dUnhide hZ).2 0 _ rfl
      obtain ⟨z1, s1⟩ := (dUnhide hZ).2 1 _ rfl
      obtain ⟨y0, p0⟩ := (dUnhide hY).2 0 _ rfl
      obtain ⟨y1, p1⟩ := (dUnhide hY).2 1 _ rfl
      have YY := dHide (((dUnhide hY).put 0 (.int .i64 tr)).put 1 (.slice oa rs.length oc))
      have OO := dHide (((dUnhide hA).far (b := w.heap.size + 1) (o := 0) (by omega) (.int .i64 tr)).far (b := w.heap.size + 1) (o := 1) (by omega) (.slice oa rs.length oc))
      have BB := dHide ((hb.setCell (p := ⟨w.heap.size + 1, 0, none⟩) (by simp only; omega) (.int .i64 tr)).setCell (p := ⟨w.heap.size + 1, 1, none⟩) (by simp only; omega) (.slice oa rs.length oc))
      clear hA HR HN HL eT
      go_wp2_with fail
      generalize (wr.setCell ⟨w.heap.size + 1, 0, none⟩ (.int .i64 tr)).setCell ⟨w.heap.size + 1, 1, none⟩ (.slice oa rs.length oc) = V at *
      have q0 := ((dUnhide YY).2 0 _ rfl).1
      have q1 := ((dUnhide YY).2 1 _ rfl).1
      clear z0 z1 s0 s1 y0 y1 p0 p1 x0
      refine bodyPost_ret (v := .agg #[.int .i64 tr, .slice oa rs.length oc]) (by simp [results, Tryz.results113, go_sem, q0, q1]) rfl ⟨⟨_, rfl, (dUnhide OO).mono (by omega)⟩, dUnhide BB⟩
end Go.Proofs.YthndkkjgjhgdnaaGreatDoor
