/- How far a writer is sure: spec.WriterSure, and impl's window. -/
import Derived.Test.YtnogallomdckiaaWrSb
import Derived.Stop.Asserts
namespace Go.Proofs.Ytnogallomdckiaa
open Go.ChangeShapes Go.WideShapes Go.ChangeAt Go.RowKit
set_option linter.unusedVariables false
set_option linter.unusedSimpArgs false
set_option maxRecDepth 100000

/-- How many words are done ahead of the first that is not. -/
def sureL : List Wd → Nat
  | [] => 0
  | e :: l => if e.done then sureL l + 1 else 0
theorem sureL_at : ∀ (ms : List Wd) (k : Nat) (hk : k ≤ ms.length), (∀ i (h : i < ms.length), i < k → ms[i].done = true) → (∀ h : k < ms.length, ms[k].done = false) → sureL ms = k
  | [], k, hk, _, _ => by simp at hk; simp [sureL, hk]
  | e :: l, 0, _, _, h2 => by
    have := h2 (by simp)
    simp only [List.getElem_cons_zero] at this
    simp [sureL, this]
  | e :: l, k + 1, hk, h1, h2 => by
    have h0 := h1 0 (by simp) (by omega)
    simp only [List.getElem_cons_zero] at h0
    have ih := sureL_at l k (by simpa using hk) (fun i h hi => by have q := h1 (i + 1) (by simpa using h) (by omega); simp only [List.getElem_cons_succ] at q; exact q) (fun h => by have q := h2 (by simpa using h); simp only [List.getElem_cons_succ] at q; exact q)
    simp [sureL, h0, ih]
set_option maxHeartbeats 2000000 in
theorem specSure_any (v : Value) (m : Wt) (w : World) (hv : RdWriter v m w) :
    Calls Try.prog 53 #[v] w fun e w' => e = .returned (.int .i64 (sureL m.words : Int)) ∧ Below w.heap.size w w' := by
  obtain ⟨sv, rfl, hv⟩ := hv
  obtain ⟨tr, hr⟩ : ∃ tr, m.epoch = tr := ⟨_, rfl⟩
  rw [hr]
  generalize hm : m.words = ms at *
  clear hm hr
  obtain ⟨rs, rfl, hr, -⟩ := hv
  have hl0 := hr.1
  have HV := dHide fun W (hb : Below w.heap.size w W) => hr.below hb
  obtain ⟨-, a, cap, rfl, -, -⟩ := hr
  have FA : Hid (∀ k (hk : k ≤ rs.length), (∀ i (h : i < rs.length), i < k → rs[i].m.done = true) → (∀ h : k < rs.length, rs[k].m.done = false) → sureL (rs.map Nst.m) = k) := fun k hk h1 h2 => sureL_at _ k (by simpa using hk) (fun i hi hik => by rw [List.getElem_map]; exact h1 i (by simpa using hi) hik) (fun h => by rw [List.getElem_map]; exact h2 (by simpa using h))
  generalize sureL (rs.map Nst.m) = F at *
  have ba : Below w.heap.size w (w.alloc (.cells #[.int .i64 tr, .slice a rs.length cap] 86)) := (Below.refl _ _).alloc (Nat.le_refl _) _
  have X0 := Bx.new w [.int .i64 tr, .slice a rs.length cap] 86
  go_enter Try.func53, Try.ntmps53
  go_wp2
  have k0 := X0 1 _ rfl
  have HR := dHide (dUnhide HV _ ba)
  generalize w.alloc (.cells #[.int .i64 tr, .slice a rs.length cap] 86) = w0 at *
  clear HV X0
  go_loopw [3] (fun x wr => ∃ k : Nat, x = .int .i64 (k : Int) ∧ k ≤ rs.length ∧ Hid (∀ i (h : i < rs.length), i < k → rs[i].m.done = true) ∧ wr = w0) (fun x _ => rs.length - (intOf x).toNat)
  case atStart => exact ⟨0, rfl, Nat.zero_le _, fun i h h' => by omega, rfl⟩
  case round =>
    obtain ⟨k, rfl, hk, hc, rfl⟩ := hrel
    by_cases hlt : (k : Int) < (rs.length : Int)
    · have hkl : k < rs.length := by omega
      obtain ⟨b, off, rfl, he⟩ := (dUnhide HR).word hkl
      have c1 := (he k hkl).2.2
      cases hcl : rs[k].m.done with
      | true =>
        rw [hcl] at c1
        have H2 : Hid (∀ i (h : i < rs.length), i < k + 1 → rs[i].m.done = true) := fun i h hi => by
          by_cases e : i = k
          · subst e; exact hcl
          · exact dUnhide hc i h (by omega)
        clear hc he
        go_wp2
        go_roundw
        case rel => exact ⟨k + 1, by go_num, by omega, H2, by trivial⟩
        case measure => simp [intOf]; omega
      | false =>
        rw [hcl] at c1
        have e1 := dUnhide FA k (by omega) (dUnhide hc) (fun _ => hcl)
        have e2 : Hid ((F : Int) = (k : Int)) := by rw [Hid, e1]
        clear hc he FA e1
        go_wp2
        go_ret
        exact ⟨by rw [dUnhide e2]; rfl, ba⟩
    · have e1 := dUnhide FA k (by omega) (dUnhide hc) (fun h => by omega)
      have e2 : Hid ((F : Int) = (k : Int)) := by rw [Hid, e1]
      clear hc FA e1
      go_wp2
      go_ret
      exact ⟨by rw [dUnhide e2]; rfl, ba⟩
/-- What is there at an offset: nothing, a word that is done, a word that is open. -/
theorem taDone_nil (w : World) : (Instr.typeAssert .nilIface 20 185 true).run Try.prog w = .ok (.tuple #[.agg #[], .bool false]) w := by kernel_rfl
theorem taDone_yes (w : World) : (Instr.typeAssert (.iface 185 (.agg #[])) 20 185 true).run Try.prog w = .ok (.tuple #[.agg #[], .bool true]) w := by kernel_rfl
theorem taDone_open (v : Value) (w : World) : (Instr.typeAssert (.iface 190 v) 20 185 true).run Try.prog w = .ok (.tuple #[.agg #[], .bool false]) w := by kernel_rfl
theorem taOpen_nil (w : World) : (Instr.typeAssert .nilIface 20 190 true).run Try.prog w = .ok (.tuple #[.agg #[.pointer none], .bool false]) w := by kernel_rfl
theorem taOpen_done (w : World) : (Instr.typeAssert (.iface 185 (.agg #[])) 20 190 true).run Try.prog w = .ok (.tuple #[.agg #[.pointer none], .bool false]) w := by kernel_rfl
theorem taOpen_yes (v : Value) (w : World) : (Instr.typeAssert (.iface 190 v) 20 190 true).run Try.prog w = .ok (.tuple #[v, .bool true]) w := by kernel_rfl
set_option maxHeartbeats 2000000 in
theorem winAt_no (b o : Nat) (a : Option Addr) (n cap : Nat) (x : Int) (w : World) (hc : w.cell? ⟨b, o + 2, none⟩ = some (.slice a n cap)) (hx : ¬ (1 ≤ x ∧ x ≤ (n : Int))) :
    Calls Try.prog 118 #[.pointer (some ⟨b, o, none⟩), .int .i64 x] w fun e w' => e = .returned .nilIface ∧ w' = w := by
  by_cases h1 : x < 1
  · go_enter Try.func118, Try.ntmps118
    go_wp2
    go_ret
    exact ⟨rfl, rfl⟩
  · have h2 : (n : Int) < x := by omega
    go_enter Try.func118, Try.ntmps118
    go_wp2
    go_ret
    exact ⟨rfl, rfl⟩
set_option maxHeartbeats 2000000 in
theorem winAt_done (b o b' off n cap k : Nat) (w : World) (hc : w.cell? ⟨b, o + 2, none⟩ = some (.slice (some ⟨b', off, none⟩) n cap)) (hk : k < n) (hn : n ≤ 9223372036854775807) (hd : w.cell? ⟨b', off + k * 3 + 2, none⟩ = some (.bool true)) :
    Calls Try.prog 118 #[.pointer (some ⟨b, o, none⟩), .int .i64 ((k : Int) + 1)] w fun e w' => e = .returned (.iface 185 (.agg #[])) ∧ w' = w := by
  have h1 : ¬ ((k : Int) + 1 < 1) := by omega
  have h2 : ¬ ((n : Int) < (k : Int) + 1) := by omega
  have h3 : (k : Int) + 1 - 1 = (k : Int) := by omega
  have h4 : (k : Int) < (n : Int) := by omega
  go_enter Try.func118, Try.ntmps118
  go_wp2
  go_ret
  exact ⟨rfl, rfl⟩
set_option maxHeartbeats 2000000 in
theorem winAt_open (b o b' off n cap k : Nat) (w : World) (hc : w.cell? ⟨b, o + 2, none⟩ = some (.slice (some ⟨b', off, none⟩) n cap)) (hk : k < n) (hn : n ≤ 9223372036854775807) (hd : w.cell? ⟨b', off + k * 3 + 2, none⟩ = some (.bool false)) :
    Calls Try.prog 118 #[.pointer (some ⟨b, o, none⟩), .int .i64 ((k : Int) + 1)] w fun e w' => e = .returned (.iface 190 (.agg #[.pointer (some ⟨b', off + k * 3, none⟩)])) ∧ w' = w := by
  have h1 : ¬ ((k : Int) + 1 < 1) := by omega
  have h2 : ¬ ((n : Int) < (k : Int) + 1) := by omega
  have h3 : (k : Int) + 1 - 1 = (k : Int) := by omega
  have h4 : (k : Int) < (n : Int) := by omega
  go_enter Try.func118, Try.ntmps118
  go_wp2
  go_ret
  exact ⟨rfl, rfl⟩
set_option maxHeartbeats 2000000 in
theorem winDone_any (b o n cap : Nat) (a : Option Addr) (rs : List (Nst Wd)) (k : Nat) (w : World) (hc : w.cell? ⟨b, o + 2, none⟩ = some (.slice a n cap)) (hr : Rw 3 wdCl w (.slice a n cap) rs) (hn : n = rs.length) :
    Calls Try.prog 108 #[.pointer (some ⟨b, o, none⟩), .int .i64 ((k : Int) + 1)] w fun e w' => e = .returned (.bool (decide (∃ h : k < rs.length, rs[k].m.done = true))) ∧ Below w.heap.size w w' := by
  have ba : ∀ o, Below w.heap.size w (w.alloc o) := fun o => (Below.refl _ _).alloc (Nat.le_refl _) o
  have t1 := taDone_nil
  have t2 := taDone_yes
  have t3 := taDone_open
  subst hn
  have hl := hr.1
  by_cases hk : k < rs.length
  · obtain ⟨b', off, rfl, he⟩ := hr.word hk
    have c1 := (he k hk).2.2
    cases hd : rs[k].m.done with
    | true =>
      rw [hd] at c1
      rw [show decide (∃ h : k < rs.length, rs[k].m.done = true) = true from decide_eq_true ⟨hk, hd⟩]
      have C1 := dHide (winAt_done b o b' off rs.length cap k w hc hk hl c1)
      clear c1 he hr
      go_enter Try.func108, Try.ntmps108
      go_wp2_with fail
      refine (dUnhide C1).mono ?_
      rintro e w1 ⟨rfl, rfl⟩
      go_wp2
      go_ret
      exact ⟨rfl, ba _⟩
    | false =>
      rw [hd] at c1
      rw [show decide (∃ h : k < rs.length, rs[k].m.done = true) = false from decide_eq_false (fun ⟨h, h'⟩ => by rw [hd] at h'; cases h')]
      have C1 := dHide (winAt_open b o b' off rs.length cap k w hc hk hl c1)
      clear c1 he hr
      go_enter Try.func108, Try.ntmps108
      go_wp2_with fail
      refine (dUnhide C1).mono ?_
      rintro e w1 ⟨rfl, rfl⟩
      go_wp2
      go_ret
      exact ⟨rfl, ba _⟩
  · rw [show decide (∃ h : k < rs.length, rs[k].m.done = true) = false from decide_eq_false (fun ⟨h, h'⟩ => hk h)]
    have C1 := dHide (winAt_no b o a rs.length cap ((k : Int) + 1) w hc (by omega))
    clear hr
    go_enter Try.func108, Try.ntmps108
    go_wp2_with fail
    refine (dUnhide C1).mono ?_
    rintro e w1 ⟨rfl, rfl⟩
    go_wp2
    go_ret
    exact ⟨rfl, ba _⟩
set_option maxHeartbeats 2000000 in
theorem winSure_any (b o cap : Nat) (a : Option Addr) (rs : List (Nst Wd)) (w : World) (hl : rs.length ≤ 1073741824) (hc : w.cell? ⟨b, o + 2, none⟩ = some (.slice a rs.length cap)) (hr : Rw 3 wdCl w (.slice a rs.length cap) rs) :
    Calls Try.prog 92 #[.pointer (some ⟨b, o, none⟩)] w fun e w' => e = .returned (.int .i64 (sureL (rs.map Nst.m) : Int)) ∧ Below w.heap.size w w' := by
  have hl0 := hr.1
  have FA : Hid (∀ k (hk : k ≤ rs.length), (∀ i (h : i < rs.length), i < k → rs[i].m.done = true) → (∀ h : k < rs.length, rs[k].m.done = false) → sureL (rs.map Nst.m) = k) := fun k hk h1 h2 => sureL_at _ k (by simpa using hk) (fun i hi hik => by rw [List.getElem_map]; exact h1 i (by simpa using hi) hik) (fun h => by rw [List.getElem_map]; exact h2 (by simpa using h))
  generalize sureL (rs.map Nst.m) = F at *
  have CD := dHide fun k W (hb : Below w.heap.size w W) => winDone_any b o rs.length cap a rs k W ((hb.cell (p := ⟨b, o + 2, none⟩) (dCell_lt hc)).trans hc) (hr.below hb) rfl
  clear hc hr
  go_enter Try.func92, Try.ntmps92
  go_wp2
  go_loopw [3] (fun x wr => ∃ k : Nat, x = .int .i64 (k : Int) ∧ k ≤ rs.length ∧ Hid (∀ i (h : i < rs.length), i < k → rs[i].m.done = true) ∧ Below w.heap.size w wr) (fun x _ => rs.length - (intOf x).toNat)
  case atStart => exact ⟨0, rfl, Nat.zero_le _, fun i h h' => by omega, Below.refl _ _⟩
  case round =>
    obtain ⟨k, rfl, hk, hc, hb⟩ := hrel
    have C1 := dUnhide CD k wr hb
    by_cases hd : ∃ h : k < rs.length, rs[k].m.done = true
    · rw [decide_eq_true hd] at C1
      obtain ⟨hkl, hcl⟩ := hd
      have H2 : Hid (∀ i (h : i < rs.length), i < k + 1 → rs[i].m.done = true) := fun i h hi => by
        by_cases e : i = k
        · subst e; exact hcl
        · exact dUnhide hc i h (by omega)
      replace C1 := dHide C1
      have h9 : (k : Int) + 1 ≤ 9223372036854775807 := by omega
      clear hc hcl
      go_wp2_with fail
      refine (dUnhide C1).mono ?_
      rintro e w1 ⟨rfl, b1⟩
      go_wp2
      go_roundw
      case rel => exact ⟨k + 1, by go_num, by omega, H2, belowThen hb b1⟩
      case measure => simp [intOf]; omega
    · rw [decide_eq_false hd] at C1
      have e1 := dUnhide FA k hk (dUnhide hc) (fun h => by
        cases hx : rs[k].m.done with
        | true => exact absurd ⟨h, hx⟩ hd
        | false => rfl)
      have e2 : Hid ((F : Int) = (k : Int)) := by rw [Hid, e1]
      replace C1 := dHide C1
      have h9 : (k : Int) + 1 ≤ 9223372036854775808 := by omega
      clear hc FA e1 hd
      go_wp2_with fail
      refine (dUnhide C1).mono ?_
      rintro e w1 ⟨rfl, b1⟩
      go_wp2
      go_ret
      exact ⟨by rw [dUnhide e2]; rfl, belowThen hb b1⟩
/-- A writing: a new block of four cells. -/
theorem writingOf_any (ca : Option Addr) (cn cc : Nat) (cop e : Int) (a : Option Addr) (n cap : Nat) (w : World) :
    Calls Try.prog 91 #[.agg #[.slice ca cn cc, .int .i64 cop], .agg #[.int .i64 e, .slice a n cap]] w fun r w' => (∃ b, r = .returned (.pointer (some ⟨b, 0, none⟩)) ∧ BxZ w' w.heap.size b [.int .i64 e, .slice ca cn cc, .int .i64 cop, .slice a n cap]) ∧ Below w.heap.size w w' := by
  have ba : ∀ (w : World) o, Below w.heap.size w (w.alloc o) := fun w o => (Below.refl _ _).alloc (Nat.le_refl _) o
  go_enter Try.func91, Try.ntmps91
  go_wp2
  go_ret
  refine ⟨⟨_, rfl, ?_⟩, belowThen (belowThen (ba w _) (ba _ _)) (ba _ _)⟩
  have q := BxZ.new (B := w.heap.size) ((w.alloc (.cells #[.slice ca cn cc, .int .i64 cop] 26)).alloc (.cells #[.int .i64 e, .slice a n cap] 86)) [.int .i64 e, .slice ca cn cc, .int .i64 cop, .slice a n cap] 147 (by simp <;> omega)
  simpa using q
set_option maxHeartbeats 2000000 in
theorem implSure_any (v : Value) (m : Wt) (w : World) (hl : m.words.length ≤ 1073741824) (hv : RdWriter v m w) :
    Calls Try.prog 60 #[v] w fun e w' => e = .returned (.int .i64 (sureL m.words : Int)) ∧ Below w.heap.size w w' := by
  obtain ⟨sv, rfl, rs, hm, hr, -⟩ := hv
  have ba : ∀ (w : World) o, Below w.heap.size w (w.alloc o) := fun w o => (Below.refl _ _).alloc (Nat.le_refl _) o
  have el : rs.length ≤ 1073741824 := by rw [← hm, List.length_map] at hl; exact hl
  rw [← hm]
  clear hm hl
  have HR := dHide fun W (hb : Below w.heap.size w W) => hr.below hb
  obtain ⟨-, a, cap, rfl, -, -⟩ := hr
  have CW := dHide fun W => writingOf_any none 0 0 0 m.epoch a rs.length cap W
  have CS := dHide fun W b (hb : Below w.heap.size w W) hc => winSure_any b 1 cap a rs W el hc (dUnhide HR W hb)
  have bA := ba w (.cells #[.int .i64 m.epoch, .slice a rs.length cap] 86)
  clear HR
  go_enter Try.func60, Try.ntmps60
  go_wp2_with fail
  refine (dUnhide CW _).mono ?_
  rintro e w1 ⟨⟨b, rfl, X1⟩, b1⟩
  have B1 := belowThen bA b1
  have C2 := dHide (dUnhide CS w1 b B1 (X1.2 3 _ rfl).1)
  clear CW CS b1 X1
  go_wp2_with fail
  refine (dUnhide C2).mono ?_
  rintro e w2 ⟨rfl, b2⟩
  go_wp2
  go_ret
  exact ⟨rfl, belowThen B1 b2⟩
end Go.Proofs.Ytnogallomdckiaa
