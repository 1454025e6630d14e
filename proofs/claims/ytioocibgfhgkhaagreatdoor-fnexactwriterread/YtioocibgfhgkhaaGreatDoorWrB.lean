/- How far a writer is sure: spec.WriterSure, and impl's window. -/
import Derived.Test.YtioocibgfhgkhaaGreatDoorWrSb
import Derived.Stop.Asserts
namespace Go.Proofs.YtioocibgfhgkhaaGreatDoor
open Go.ChangeShapes Go.WideShapes Go.ChangeAt Go.RowKit
set_option linter.unusedVariables false
set_option linter.unusedSimpArgs false
set_option maxRecDepth 100000

/-- How many words are done ahead of the first that is not. -/
def sureL : List Wd → Nat
  | [] => 0
  | e :: l => if e.done then sureL l + 1 else 0
theorem sureL_at : ∀ (ms : List Wd) (k : Nat) (hk : k ≤ ms.length), (∀ i (h : i < ms.length), i < k → ms[i].done = true) → (∀ h : k < ms.length, ms[k].done = false) → sureL ms = k
  | [], k, hk, _, _ => by simp at hk; simp [sureL, hk]
  | e :: l, 0, _, _, h2 => by
    have := h2 (by simp)
    simp only [List.getElem_cons_zero] at this
    simp [sureL, this]
  | e :: l, k + 1, hk, h1, h2 => by
    have h0 := h1 0 (by simp) (by omega)
    simp only [List.getElem_cons_zero] at h0
    have ih := sureL_at l k (by simpa using hk) (fun i h hi => by have q := h1 (i + 1) (by simpa using h) (by omega); simp only [List.getElem_cons_succ] at q; exact q) (fun h => by have q := h2 (by simpa using h); simp only [List.getElem_cons_succ] at q; exact q)
    simp [sureL, h0, ih]
/-- What is there at an offset: nothing, a word that is done, a word that is open. -/
theorem taDone_nil (w : World) : (Instr.typeAssert .nilIface 20 196 true).run Tryz.prog w = .ok (.tuple #[.agg #[], .bool false]) w := by kernel_rfl
theorem taDone_yes (w : World) : (Instr.typeAssert (.iface 196 (.agg #[])) 20 196 true).run Tryz.prog w = .ok (.tuple #[.agg #[], .bool true]) w := by kernel_rfl
theorem taDone_open (v : Value) (w : World) : (Instr.typeAssert (.iface 191 v) 20 196 true).run Tryz.prog w = .ok (.tuple #[.agg #[], .bool false]) w := by kernel_rfl
theorem taOpen_nil (w : World) : (Instr.typeAssert .nilIface 20 191 true).run Tryz.prog w = .ok (.tuple #[.agg #[.pointer none], .bool false]) w := by kernel_rfl
theorem taOpen_done (w : World) : (Instr.typeAssert (.iface 196 (.agg #[])) 20 191 true).run Tryz.prog w = .ok (.tuple #[.agg #[.pointer none], .bool false]) w := by kernel_rfl
theorem taOpen_yes (v : Value) (w : World) : (Instr.typeAssert (.iface 191 v) 20 191 true).run Tryz.prog w = .ok (.tuple #[v, .bool true]) w := by kernel_rfl
set_option maxHeartbeats 2000000 in
theorem winAt_no (b o : Nat) (a : Option Addr) (n cap : Nat) (x : Int) (w : World) (hc : w.cell? ⟨b, o + 2, none⟩ = some (.slice a n cap)) (hx : ¬ (1 ≤ x ∧ x ≤ (n : Int))) :
    Calls Tryz.prog 125 #[.pointer (some ⟨b, o, none⟩), .int .i64 x] w fun e w' => e = .returned .nilIface ∧ w' = w := by
  by_cases h1 : x < 1
  · go_enter Tryz.func125, Tryz.ntmps125
    go_wp2
    go_ret
    exact ⟨rfl, rfl⟩
  · have h2 : (n : Int) < x := by omega
    go_enter Tryz.func125, Tryz.ntmps125
    go_wp2
    go_ret
    exact ⟨rfl, rfl⟩
set_option maxHeartbeats 2000000 in
theorem winAt_done (b o b' off n cap k : Nat) (w : World) (hc : w.cell? ⟨b, o + 2, none⟩ = some (.slice (some ⟨b', off, none⟩) n cap)) (hk : k < n) (hn : n ≤ 9223372036854775807) (hd : w.cell? ⟨b', off + k * 3 + 2, none⟩ = some (.bool true)) :
    Calls Tryz.prog 125 #[.pointer (some ⟨b, o, none⟩), .int .i64 ((k : Int) + 1)] w fun e w' => e = .returned (.iface 196 (.agg #[])) ∧ w' = w := by
  have h1 : ¬ ((k : Int) + 1 < 1) := by omega
  have h2 : ¬ ((n : Int) < (k : Int) + 1) := by omega
  have h3 : (k : Int) + 1 - 1 = (k : Int) := by omega
  have h4 : (k : Int) < (n : Int) := by omega
  go_enter Tryz.func125, Tryz.ntmps125
  go_wp2
  go_ret
  exact ⟨rfl, rfl⟩
set_option maxHeartbeats 2000000 in
theorem winAt_open (b o b' off n cap k : Nat) (w : World) (hc : w.cell? ⟨b, o + 2, none⟩ = some (.slice (some ⟨b', off, none⟩) n cap)) (hk : k < n) (hn : n ≤ 9223372036854775807) (hd : w.cell? ⟨b', off + k * 3 + 2, none⟩ = some (.bool false)) :
    Calls Tryz.prog 125 #[.pointer (some ⟨b, o, none⟩), .int .i64 ((k : Int) + 1)] w fun e w' => e = .returned (.iface 191 (.agg #[.pointer (some ⟨b', off + k * 3, none⟩)])) ∧ w' = w := by
  have h1 : ¬ ((k : Int) + 1 < 1) := by omega
  have h2 : ¬ ((n : Int) < (k : Int) + 1) := by omega
  have h3 : (k : Int) + 1 - 1 = (k : Int) := by omega
  have h4 : (k : Int) < (n : Int) := by omega
  go_enter Tryz.func125, Tryz.ntmps125
  go_wp2
  go_ret
  exact ⟨rfl, rfl⟩
/-- A writing: a new block of four cells. -/
theorem writingOf_any (ca : Option Addr) (cn cc : Nat) (cop e : Int) (a : Option Addr) (n cap : Nat) (w : World) :
    Calls Tryz.prog 86 #[.agg #[.slice ca cn cc, .int .i64 cop], .agg #[.int .i64 e, .slice a n cap]] w fun r w' => (∃ b, r = .returned (.pointer (some ⟨b, 0, none⟩)) ∧ BxZ w' w.heap.size b [.int .i64 e, .slice ca cn cc, .int .i64 cop, .slice a n cap]) ∧ Below w.heap.size w w' := by
  have ba : ∀ (w : World) o, Below w.heap.size w (w.alloc o) := fun w o => (Below.refl _ _).alloc (Nat.le_refl _) o
  go_enter Tryz.func86, Tryz.ntmps86
  go_wp2
  go_ret
  refine ⟨⟨_, rfl, ?_⟩, belowThen (belowThen (ba w _) (ba _ _)) (ba _ _)⟩
  have q := BxZ.new (B := w.heap.size) ((w.alloc (.cells #[.slice ca cn cc, .int .i64 cop] 32)).alloc (.cells #[.int .i64 e, .slice a n cap] 44)) [.int .i64 e, .slice ca cn cc, .int .i64 cop, .slice a n cap] 170 (by simp <;> omega)
  simpa using q
end Go.Proofs.YtioocibgfhgkhaaGreatDoor
