/- Several texts in one: WrB, SoA. -/
import Derived.Test.YtodfgehicpejgaaGreatDoorGk163
import Derived.Stop.Asserts
import Derived.Test.YtodfgehicpejgaaGreatDoorGk164
import Derived.Deep.DeepCutAuto
namespace Go.Proofs.YtodfgehicpejgaaGreatDoor
open Go.ChangeShapes Go.WideShapes Go.ChangeAt Go.RowKit
set_option linter.unusedSimpArgs false
set_option linter.unusedVariables false
set_option maxRecDepth 100000
def sureL : List Wd → Nat
 | [] => 0
 | e :: l => if e.done then sureL l + 1 else 0
theorem sureL_at : ∀ (ms : List Wd) (k : Nat) (hk : k ≤ ms.length), (∀ i (h : i < ms.length), i < k → ms[i].done = true) → (∀ h : k < ms.length, ms[k].done = false) → sureL ms = k
 | [], k, hk, _, _ => by simp at hk; simp [sureL, hk]
 | e :: l, 0, _, _, h2 => by
  have := h2 (by simp)
  simp only [List.getElem_cons_zero] at this
  simp [sureL, this]
 | e :: l, k + 1, hk, h1, h2 => by
  have h0 := h1 0 (by simp) (by omega)
  simp only [List.getElem_cons_zero] at h0
  have ih := sureL_at l k (by simpa using hk) (fun i h hi => by have q := h1 (i + 1) (by simpa using h) (by omega); simp only [List.getElem_cons_succ] at q; exact q) (fun h => by have q := h2 (by simpa using h); simp only [List.getElem_cons_succ] at q; exact q)
  simp [sureL, h0, ih]
theorem taDone_nil (w : World) : (Instr.typeAssert .nilIface 20 270 true).run Tryz.prog w = .ok (.tuple #[.agg #[], .bool false]) w := by kernel_rfl
theorem taDone_yes (w : World) : (Instr.typeAssert (.iface 270 (.agg #[])) 20 270 true).run Tryz.prog w = .ok (.tuple #[.agg #[], .bool true]) w := by kernel_rfl
theorem taDone_open (v : Value) (w : World) : (Instr.typeAssert (.iface 295 v) 20 270 true).run Tryz.prog w = .ok (.tuple #[.agg #[], .bool false]) w := by kernel_rfl
theorem taOpen_done (w : World) : (Instr.typeAssert (.iface 270 (.agg #[])) 20 295 true).run Tryz.prog w = .ok (.tuple #[.agg #[.pointer none], .bool false]) w := by kernel_rfl
theorem taOpen_yes (v : Value) (w : World) : (Instr.typeAssert (.iface 295 v) 20 295 true).run Tryz.prog w = .ok (.tuple #[v, .bool true]) w := by kernel_rfl
set_option maxHeartbeats 2000000 in
theorem winAt_no (b o : Nat) (a : Option Addr) (n cap : Nat) (x : Int) (w : World) (hc : w.cell? ⟨b, o + 2, none⟩ = some (.slice a n cap)) (hx : ¬ (1 ≤ x ∧ x ≤ (n : Int))) :
  Calls Tryz.prog 252 #[.pointer (some ⟨b, o, none⟩), .int .i64 x] w fun e w' => e = .returned .nilIface ∧ w' = w := by
 by_cases h1 : x < 1
 ·go_enter Tryz.func252, Tryz.ntmps252
  go_wp2
  go_ret
  exact ⟨rfl, rfl⟩
 ·have h2 : (n : Int) < x := by omega
  go_enter Tryz.func252, Tryz.ntmps252
  go_wp2
  go_ret
  exact ⟨rfl, rfl⟩
set_option maxHeartbeats 2000000 in
theorem winAt_done (b o b' off n cap k : Nat) (w : World) (hc : w.cell? ⟨b, o + 2, none⟩ = some (.slice (some ⟨b', off, none⟩) n cap)) (hk : k < n) (hn : n ≤ 9223372036854775807) (hd : w.cell? ⟨b', off + k * 3 + 2, none⟩ = some (.bool true)) :
  Calls Tryz.prog 252 #[.pointer (some ⟨b, o, none⟩), .int .i64 ((k : Int) + 1)] w fun e w' => e = .returned (.iface 270 (.agg #[])) ∧ w' = w := by
 have h1 : ¬ ((k : Int) + 1 < 1) := by omega
 have h2 : ¬ ((n : Int) < (k : Int) + 1) := by omega
 have h3 : (k : Int) + 1 - 1 = (k : Int) := by omega
 have h4 : (k : Int) < (n : Int) := by omega
 go_enter Tryz.func252, Tryz.ntmps252
 go_wp2
 go_ret
 exact ⟨rfl, rfl⟩
set_option maxHeartbeats 2000000 in
theorem winAt_open (b o b' off n cap k : Nat) (w : World) (hc : w.cell? ⟨b, o + 2, none⟩ = some (.slice (some ⟨b', off, none⟩) n cap)) (hk : k < n) (hn : n ≤ 9223372036854775807) (hd : w.cell? ⟨b', off + k * 3 + 2, none⟩ = some (.bool false)) :
  Calls Tryz.prog 252 #[.pointer (some ⟨b, o, none⟩), .int .i64 ((k : Int) + 1)] w fun e w' => e = .returned (.iface 295 (.agg #[.pointer (some ⟨b', off + k * 3, none⟩)])) ∧ w' = w := by
 have h1 : ¬ ((k : Int) + 1 < 1) := by omega
 have h2 : ¬ ((n : Int) < (k : Int) + 1) := by omega
 have h3 : (k : Int) + 1 - 1 = (k : Int) := by omega
 have h4 : (k : Int) < (n : Int) := by omega
 go_enter Tryz.func252, Tryz.ntmps252
 go_wp2
 go_ret
 exact ⟨rfl, rfl⟩
set_option maxHeartbeats 2000000 in
theorem winDone_any (b o n cap : Nat) (a : Option Addr) (rs : List (Nst Wd)) (k : Nat) (w : World) (hc : w.cell? ⟨b, o + 2, none⟩ = some (.slice a n cap)) (hr : Rw 3 wdCl w (.slice a n cap) rs) (hn : n = rs.length) :
  Calls Tryz.prog 177 #[.pointer (some ⟨b, o, none⟩), .int .i64 ((k : Int) + 1)] w fun e w' => e = .returned (.bool (decide (∃ h : k < rs.length, rs[k].m.done = true))) ∧ Below w.heap.size w w' := by
 have ba : ∀ o, Below w.heap.size w (w.alloc o) := fun o => (Below.refl _ _).alloc (Nat.le_refl _) o
 have t1 := taDone_nil
 have t2 := taDone_yes
 have t3 := taDone_open
 subst hn
 have hl := hr.1
 by_cases hk : k < rs.length
 ·obtain ⟨b', off, rfl, he⟩ := hr.word hk
  have c1 := (he k hk).2.2
  cases hd : rs[k].m.done with
  | true =>
   rw [hd] at c1
   rw [show decide (∃ h : k < rs.length, rs[k].m.done = true) = true from decide_eq_true ⟨hk, hd⟩]
   have C1 := dH (winAt_done b o b' off rs.length cap k w hc hk hl c1)
   clear c1 he hr
   go_enter Tryz.func177, Tryz.ntmps177
   go_wp2_with fail
   refine (dU C1).mono ?_
   rintro e w1 ⟨rfl, rfl⟩
   go_wp2
   go_ret
   exact ⟨rfl, ba _⟩
  | false =>
   rw [hd] at c1
   rw [show decide (∃ h : k < rs.length, rs[k].m.done = true) = false from decide_eq_false (fun ⟨h, h'⟩ => by rw [hd] at h'; cases h')]
   have C1 := dH (winAt_open b o b' off rs.length cap k w hc hk hl c1)
   clear c1 he hr
   go_enter Tryz.func177, Tryz.ntmps177
   go_wp2_with fail
   refine (dU C1).mono ?_
   rintro e w1 ⟨rfl, rfl⟩
   go_wp2
   go_ret
   exact ⟨rfl, ba _⟩
 ·rw [show decide (∃ h : k < rs.length, rs[k].m.done = true) = false from decide_eq_false (fun ⟨h, h'⟩ => hk h)]
  have C1 := dH (winAt_no b o a rs.length cap ((k : Int) + 1) w hc (by omega))
  clear hr
  go_enter Tryz.func177, Tryz.ntmps177
  go_wp2_with fail
  refine (dU C1).mono ?_
  rintro e w1 ⟨rfl, rfl⟩
  go_wp2
  go_ret
  exact ⟨rfl, ba _⟩
set_option maxHeartbeats 2000000 in
theorem winSure_any (b o cap : Nat) (a : Option Addr) (rs : List (Nst Wd)) (w : World) (hl : rs.length ≤ 1073741824) (hc : w.cell? ⟨b, o + 2, none⟩ = some (.slice a rs.length cap)) (hr : Rw 3 wdCl w (.slice a rs.length cap) rs) :
  Calls Tryz.prog 92 #[.pointer (some ⟨b, o, none⟩)] w fun e w' => e = .returned (.int .i64 (sureL (rs.map Nst.m) : Int)) ∧ Below w.heap.size w w' := by
 have hl0 := hr.1
 have FA : Hid (∀ k (hk : k ≤ rs.length), (∀ i (h : i < rs.length), i < k → rs[i].m.done = true) → (∀ h : k < rs.length, rs[k].m.done = false) → sureL (rs.map Nst.m) = k) := fun k hk h1 h2 => sureL_at _ k (by simpa using hk) (fun i hi hik => by rw [List.getElem_map]; exact h1 i (by simpa using hi) hik) (fun h => by rw [List.getElem_map]; exact h2 (by simpa using h))
 generalize sureL (rs.map Nst.m) = F at *
 have CD := dH fun k W (hb : Below w.heap.size w W) => winDone_any b o rs.length cap a rs k W ((hb.cell (p := ⟨b, o + 2, none⟩) (dCell_lt hc)).trans hc) (hr.below hb) rfl
 clear hc hr
 go_enter Tryz.func92, Tryz.ntmps92
 go_wp2
 go_loopw [3] (fun x wr => ∃ k : Nat, x = .int .i64 (k : Int) ∧ k ≤ rs.length ∧ Hid (∀ i (h : i < rs.length), i < k → rs[i].m.done = true) ∧ Below w.heap.size w wr) (fun x _ => rs.length - (intOf x).toNat)
 case atStart => exact ⟨0, rfl, Nat.zero_le _, fun i h h' => by omega, Below.refl _ _⟩
 case round =>
  obtain ⟨k, rfl, hk, hc, hb⟩ := hrel
  have C1 := dU CD k wr hb
  by_cases hd : ∃ h : k < rs.length, rs[k].m.done = true
  ·rw [decide_eq_true hd] at C1
   obtain ⟨hkl, hcl⟩ := hd
   have H2 : Hid (∀ i (h : i < rs.length), i < k + 1 → rs[i].m.done = true) := fun i h hi => by
    by_cases e : i = k
    ·subst e; exact hcl
    ·exact dU hc i h (by omega)
   replace C1 := dH C1
   have h9 : (k : Int) + 1 ≤ 9223372036854775807 := by omega
   clear hc hcl
   go_wp2_with fail
   refine (dU C1).mono ?_
   rintro e w1 ⟨rfl, b1⟩
   go_wp2
   go_roundw
   case rel => exact ⟨k + 1, by go_num, by omega, H2, bT hb b1⟩
   case measure => simp [intOf]; omega
  ·rw [decide_eq_false hd] at C1
   have e1 := dU FA k hk (dU hc) (fun h => by
    cases hx : rs[k].m.done with
    | true => exact absurd ⟨h, hx⟩ hd
    | false => rfl)
   have e2 : Hid ((F : Int) = (k : Int)) := by rw [Hid, e1]
   replace C1 := dH C1
   have h9 : (k : Int) + 1 ≤ 9223372036854775808 := by omega
   clear hc FA e1 hd
   go_wp2_with fail
   refine (dU C1).mono ?_
   rintro e w1 ⟨rfl, b1⟩
   go_wp2
   go_ret
   exact ⟨by rw [dU e2]; rfl, bT hb b1⟩
theorem writingOf_any (ca : Option Addr) (cn cc : Nat) (cop e : Int) (a : Option Addr) (n cap : Nat) (w : World) :
  Calls Tryz.prog 91 #[.agg #[.slice ca cn cc, .int .i64 cop], .agg #[.int .i64 e, .slice a n cap]] w fun r w' => (∃ b, r = .returned (.pointer (some ⟨b, 0, none⟩)) ∧ BxZ w' w.heap.size b [.int .i64 e, .slice ca cn cc, .int .i64 cop, .slice a n cap]) ∧ Below w.heap.size w w' := by
 have ba : ∀ (w : World) o, Below w.heap.size w (w.alloc o) := fun w o => (Below.refl _ _).alloc (Nat.le_refl _) o
 go_enter Tryz.func91, Tryz.ntmps91
 go_wp2
 go_ret
 refine ⟨⟨_, rfl, ?_⟩, bT (bT (ba w _) (ba _ _)) (ba _ _)⟩
 have q := BxZ.new (B := w.heap.size) ((w.alloc (.cells #[.slice ca cn cc, .int .i64 cop] 26)).alloc (.cells #[.int .i64 e, .slice a n cap] 70)) [.int .i64 e, .slice ca cn cc, .int .i64 cop, .slice a n cap] 131 (by simp <;> omega)
 simpa using q
set_option maxHeartbeats 2000000 in
theorem implSure_any (v : Value) (m : Wt) (w : World) (hl : m.words.length ≤ 1073741824) (hv : RdWriter v m w) :
  Calls Tryz.prog 33 #[v] w fun e w' => e = .returned (.int .i64 (sureL m.words : Int)) ∧ Below w.heap.size w w' := by
 obtain ⟨sv, rfl, rs, hm, hr, -⟩ := hv
 have ba : ∀ (w : World) o, Below w.heap.size w (w.alloc o) := fun w o => (Below.refl _ _).alloc (Nat.le_refl _) o
 have el : rs.length ≤ 1073741824 := by rw [← hm, List.length_map] at hl; exact hl
 rw [← hm]
 clear hm hl
 have HR := dH fun W (hb : Below w.heap.size w W) => hr.below hb
 obtain ⟨-, a, cap, rfl, -, -⟩ := hr
 have CW := dH fun W => writingOf_any none 0 0 0 m.epoch a rs.length cap W
 have CS := dH fun W b (hb : Below w.heap.size w W) hc => winSure_any b 1 cap a rs W el hc (dU HR W hb)
 have bA := ba w (.cells #[.int .i64 m.epoch, .slice a rs.length cap] 70)
 clear HR
 go_enter Tryz.func33, Tryz.ntmps33
 go_wp2_with fail
 refine (dU CW _).mono ?_
 rintro e w1 ⟨⟨b, rfl, X1⟩, b1⟩
 have B1 := bT bA b1
 have C2 := dH (dU CS w1 b B1 (X1.2 3 _ rfl).1)
 clear CW CS b1 X1
 go_wp2_with fail
 refine (dU C2).mono ?_
 rintro e w2 ⟨rfl, b2⟩
 go_wp2
 go_ret
 exact ⟨rfl, bT B1 b2⟩
def sureOf (x : Int) : List Wt → Int
 | [] => 0
 | e :: l => if e.epoch = x then (sureL e.words : Int) else sureOf x l
theorem sureOf_at (x : Int) : ∀ (l : List Wt) (k : Nat) (hk : k < l.length), (∀ i (h : i < l.length), i < k → l[i].epoch ≠ x) → l[k].epoch = x → sureOf x l = (sureL l[k].words : Int)
 | [], k, hk, _, _ => by simp at hk
 | e :: l, 0, hk, _, ho => if_pos ho
 | e :: l, k + 1, hk, h, ho => by
  have h0 : e.epoch ≠ x := h 0 (by simp) (by omega)
  have h1 := sureOf_at x l k (by simpa using hk) (fun i hi hik => h (i + 1) (by simpa using hi) (by omega)) (by simpa using ho)
  unfold sureOf
  rw [if_neg h0, h1]
  simp
theorem sureOf_none (x : Int) : ∀ l : List Wt, (∀ i (h : i < l.length), l[i].epoch ≠ x) → sureOf x l = 0
 | [], _ => rfl
 | e :: l, h => by
  have h0 : e.epoch ≠ x := h 0 (by simp)
  unfold sureOf
  rw [if_neg h0]
  exact sureOf_none x l fun i hi => h (i + 1) (by simpa using hi)
set_option maxHeartbeats 1000000 in
theorem implSureOf_any (v : Value) (m : Wo) (x : Int) (w : World) (hs : sizWorld m ≤ 1048576) (hv : RdWorld v m w) :
  Calls Tryz.prog 13 #[v, .int .i64 x] w fun e w' => e = .returned (.int .i64 (sureOf x m.writers)) ∧ Below w.heap.size w w' := by
 obtain ⟨da, dc, sa, sc, la, lc, ea, ec, wa, wc, na, nc, ra, rc', ta, tc, rfl, -, -, -, -, hw, -, -, -⟩ := partsWorld hv
 obtain ⟨cfg, stores, lost, reg, writers, mends, readers, sent, torn⟩ := m
 simp only at *
 clear hv
 have hwl : ∀ y ∈ writers, y.words.length ≤ 1073741824 := fun y hy => by
  obtain ⟨k, hk, rfl⟩ := List.getElem_of_mem hy
  have := sumPd_mem sizWriter hk
  unfold sizWorld sizWriterS sizD at hs
  have e : sizWriter writers[k] = writers[k].words.length + sumX writers[k].words + sumW writers[k].words := rfl
  simp only at hs
  omega
 clear hs
 obtain ⟨rs, rfl, hr, hn⟩ := hw
 rw [List.length_map] at *
 have hl0 := hr.1
 have FA : Hid (∀ k (hk : k < rs.length), (∀ i (h : i < rs.length), i < k → rs[i].m.epoch ≠ x) → rs[k].m.epoch = x → sureOf x (rs.map Pd.m) = (sureL rs[k].m.words : Int)) := fun k hk h1 h2 => by
  have := sureOf_at x (rs.map Pd.m) k (by simpa using hk) (fun i hi hik => by rw [List.getElem_map]; exact h1 i (by simpa using hi) hik) (by rw [List.getElem_map]; exact h2)
  rwa [List.getElem_map] at this
 have FN : Hid ((∀ i (h : i < rs.length), rs[i].m.epoch ≠ x) → sureOf x (rs.map Pd.m) = 0) := fun h => sureOf_none x _ fun i hi => by rw [List.getElem_map]; exact h i (by simpa using hi)
 generalize sureOf x (rs.map Pd.m) = M at *
 have B0 : Below w.heap.size w (w.alloc (.cells #[.slice da cfg.1.length dc, .int .i64 cfg.2, .slice sa stores.length sc, .slice la lost.length lc, .slice ea reg.eras.length ec, .int .i64 reg.trim, .slice wa rs.length wc, .slice na mends.length nc, .slice ra readers.length rc', .slice ta sent.length tc, .bool torn] 37)) := (Below.refl _ _).alloc (Nat.le_refl _) _
 have X0 := Bx.new w [.slice da cfg.1.length dc, .int .i64 cfg.2, .slice sa stores.length sc, .slice la lost.length lc, .slice ea reg.eras.length ec, .int .i64 reg.trim, .slice wa rs.length wc, .slice na mends.length nc, .slice ra readers.length rc', .slice ta sent.length tc, .bool torn] 37
 have HV := dH fun W (hb : Below w.heap.size w W) => hr.below hb
 have HN := dH fun W (hb : Below w.heap.size w W) k (hk : k < rs.length) => (hn _ (List.getElem_mem hk)).below hb
 have HL : Hid (∀ k (hk : k < rs.length), rs[k].m.words.length ≤ 1073741824) := fun k hk => hwl _ (List.mem_map.2 ⟨_, List.getElem_mem hk, rfl⟩)
 clear hwl
 clear hn hr
 go_enter Tryz.func13, Tryz.ntmps13
 go_wp2
 have k6 := X0 6 _ rfl
 generalize w.alloc (.cells #[.slice da cfg.1.length dc, .int .i64 cfg.2, .slice sa stores.length sc, .slice la lost.length lc, .slice ea reg.eras.length ec, .int .i64 reg.trim, .slice wa rs.length wc, .slice na mends.length nc, .slice ra readers.length rc', .slice ta sent.length tc, .bool torn] 37) = w0 at *
 clear X0
 go_loopw [10] (fun y wr => ∃ k : Nat, y = .int .i64 (k : Int) ∧ k ≤ rs.length ∧ Hid (∀ i (h : i < rs.length), i < k → rs[i].m.epoch ≠ x) ∧ Below w.heap.size w wr) (fun y _ => rs.length - (intOf y).toNat)
 case atStart => exact ⟨0, rfl, Nat.zero_le _, fun i h h' => by omega, B0⟩
 case round =>
  obtain ⟨k, rfl, hk, hc, hb⟩ := hrel
  by_cases hlt : (k : Int) < (rs.length : Int)
  ·have hkl : k < rs.length := by omega
   obtain ⟨b, off, rfl, he⟩ := (dU HV _ hb).pd hkl
   have hck := he k hkl
   have CE := dH fun W (hb : Below w.heap.size w W) => implSure_any rs[k].val rs[k].m W (dU HL k hkl) (dU HN W hb k hkl)
   have hF := formWriter (dU HN _ hb k hkl)
   have H2 : Hid (rs[k].m.epoch ≠ x → ∀ i (h : i < rs.length), i < k + 1 → rs[i].m.epoch ≠ x) := fun hcl i h hi => by
    by_cases e : i = k
    ·subst e; exact hcl
    ·exact dU hc i h (by omega)
   have H3 : Hid (rs[k].m.epoch = x → M = (sureL rs[k].m.words : Int)) := fun hcl => dU FA k hkl (dU hc) hcl
   clear he hc
   generalize rs[k] = y at *
   obtain ⟨yc, yl, m⟩ := y
   obtain ⟨xa, xc, hF, -⟩ := hF
   have hF := Pd.eq hF
   simp only at hF
   subst hF
   unfold Pd.val at CE
   simp only at *
   have c0 := hck 0 _ rfl
   have c1 := hck 1 _ rfl
   simp only [Nat.add_zero] at c0 c1
   clear hck
   obtain ⟨me, mw⟩ := m
   simp only at *
   by_cases hx : me = x
   ·have e1 := dU H3 hx
    subst e1
    clear H2 H3 FA FN
    subst hx
    go_wp2_with fail
    refine (dU CE _ (hb.alloc hb.size _)).mono ?_
    rintro e w1 ⟨rfl, b1⟩
    have B1 := bT (hb.alloc hb.size _) b1
    clear CE b1 c0 c1
    go_wp2
    go_ret
    exact ⟨rfl, B1⟩
   ·have H4 := dH (dU H2 hx)
    clear H2 H3
    go_wp2
    go_roundw
    case rel => exact ⟨k + 1, by go_num, by omega, dU H4, hb.alloc hb.size _⟩
    case measure => simp [intOf]; omega
  ·have e1 := dU FN fun i h => dU hc i h (by omega)
   subst e1
   clear hc FA FN
   go_wp2
   go_ret
   exact ⟨rfl, hb⟩
end Go.Proofs.YtodfgehicpejgaaGreatDoor
