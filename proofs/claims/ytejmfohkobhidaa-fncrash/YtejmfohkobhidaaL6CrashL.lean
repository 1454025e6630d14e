/- The walk of the law FnCrash (printed by tools/mkl6c.py). -/
import Derived.Test.YtejmfohkobhidaaDsC
import Derived.Test.YtejmfohkobhidaaCrF
import Derived.Test.YtejmfohkobhidaaImFj
import Derived.Test.YtejmfohkobhidaaStK
import Derived.Test.YtejmfohkobhidaaBigB
import Derived.Test.YtejmfohkobhidaaGaA
import Derived.BigQuiet
import Derived.Deep.DeepCutAuto
namespace Go.Proofs.Ytejmfohkobhidaa
open Go.ChangeShapes Go.WideShapes Go.ChangeAt Go.RowKit
set_option linter.unusedVariables false
set_option linter.unusedSimpArgs false

theorem toListC_ne {a b : ByteArray} (h : a ≠ b) : (a.toList == b.toList) = false := by
  obtain ⟨⟨x⟩⟩ := a
  obtain ⟨⟨y⟩⟩ := b
  rw [ByteArray.toList_eq, ByteArray.toList_eq]
  exact beq_eq_false_iff_ne.2 fun e => h (by
    have e' : x = y := e
    rw [e'])
/-- How two entries compare. -/
theorem fourWays (a b : Ent) : (a.pl == b.pl) = false ∨ ((a.pl == b.pl) = true ∧ (a.wave == b.wave) = false) ∨ ((a.pl == b.pl) = true ∧ (a.wave == b.wave) = true ∧ (a.hole == b.hole) = false) ∨ ((a.pl == b.pl) = true ∧ (a.wave == b.wave) = true ∧ (a.hole == b.hole) = true ∧ (a.data.toList == b.data.toList) = false) ∨ a = b := by
  obtain ⟨a0, a1, a2, a3⟩ := a
  obtain ⟨b0, b1, b2, b3⟩ := b
  simp only
  by_cases h0 : a0 = b0
  · by_cases h1 : a1 = b1
    · by_cases h2 : a2 = b2
      · by_cases h3 : a3 = b3
        · exact .inr (.inr (.inr (.inr (by rw [h0, h1, h2, h3]))))
        · exact .inr (.inr (.inr (.inl ⟨by simp [h0], by simp [h1], by simp [h2], toListC_ne h3⟩)))
      · exact .inr (.inr (.inl ⟨by simp [h0], by simp [h1], by simpa using h2⟩))
    · exact .inr (.inl ⟨by simp [h0], by simpa using h1⟩)
  · exact .inl (by simpa using h0)
theorem rs_kept {w : World} {kv lv c : Value} {s : St} (h : Rs w (.agg #[kv, lv, c]) s) : Rw 4 Ent.cl w kv s.kept := by
  obtain ⟨kv', lv', e, h1, h2⟩ := h
  simp only [Value.agg.injEq] at e
  have e' := congrArg Array.toList e
  simp only [List.cons.injEq] at e'
  rw [e'.1]
  exact h1
theorem rs_late {w : World} {kv lv c : Value} {s : St} (h : Rs w (.agg #[kv, lv, c]) s) : Rw 4 Ent.cl w lv s.late := by
  obtain ⟨kv', lv', e, h1, h2⟩ := h
  simp only [Value.agg.injEq] at e
  have e' := congrArg Array.toList e
  simp only [List.cons.injEq] at e'
  rw [e'.2.1]
  exact h2
/-- A flag that tells a thing. -/
def FlagIs (b : Bool) (P : Prop) : Prop := b = true ↔ P
set_option maxHeartbeats 8000000 in
set_option maxRecDepth 100000 in
theorem walkFnCrash (a0 : Option Addr) (len0 cap0 : Nat) (z0 : List Int) (w : World) (w0 : IsRow .u8 w a0 len0 cap0 z0) :
    Calls Try.prog 4 #[.slice a0 len0 cap0] w fun e w' => e = .returned (.bool true) ∧ Below w.heap.size w w' := by
  have hr := row8_of w0
  have hlen := hr.1
  clear w0
  by_cases hbig : 1048576 < len0
  · have CB := dHide (big_yes a0 len0 cap0 hbig hlen)
    go_enter Try.func4, Try.ntmps4
    go_wp2_with fail
    refine (dUnhide CB _).mono ?_
    rintro e w1 ⟨rfl, rfl⟩
    go_wp2
    go_ret
    exact ⟨rfl, Below.refl _ _⟩
  have CB := dHide (big_no a0 len0 cap0 hbig)
  have CD := dHide (drawStoreCrash_any a0 len0 cap0 w hr)
  have ba : ∀ (w : World) o, Below w.heap.size w (w.alloc o) := fun w o => (Below.refl _ _).alloc (Nat.le_refl _) o
  clear hbig hr
  go_enter Try.func4, Try.ntmps4
  go_wp2_with fail
  refine (dUnhide CB _).mono ?_
  rintro e w1 ⟨rfl, rfl⟩
  clear CB
  go_wp2_with fail
  refine (dUnhide CD).mono ?_
  rintro e w1 ⟨⟨u, x, hx, rfl, s, O1, hf, hkl, hll⟩, B1⟩
  obtain ⟨ka, kc, la, lc, rfl⟩ := O1.shape
  clear CD
  have bA := ba w1 (.cells #[.slice ka s.kept.length kc, .slice la s.late.length lc, .int .i64 s.lock] 26)
  have X2 := Bx.new w1 [.slice ka s.kept.length kc, .slice la s.late.length lc, .int .i64 s.lock] 26
  have O2 := O1.below bA
  have B2 := belowThen B1 bA
  clear O1 B1 bA
  go_wp2_with fail
  generalize hbx : w1.heap.size = bx at *
  generalize w1.alloc (.cells #[.slice ka s.kept.length kc, .slice la s.late.length lc, .int .i64 s.lock] 26) = w2 at *
  clear hbx
  have TS : Hid (∀ m, crashM s x = (m, true) → stP s ∧ stP m ∧ m.late = [] ∧ m.lock = s.lock ∧ s.kept.length ≤ m.kept.length ∧ ∀ o ∈ m.kept, getL s.kept o.pl = some o ∨ o ∈ s.late) := fun m h => crash_true h
  have TF : Hid (∀ m, crashM s x = (m, false) → m = s ∨ m = zeroSt) := fun m h => crash_false h
  have C1 := dHide (implCrash_any _ s x w2 O2.rs hf)
  have CS := dHide fun W (hb : Below w2.heap.size w2 W) => specCrash_any _ s x W (O2.below hb).rs hf
  generalize hM : crashM s x = M at *
  clear hM
  obtain ⟨m, mb⟩ := M
  refine (dUnhide C1).mono ?_
  rintro e w3 ⟨⟨u3, rfl, O3⟩, b3⟩
  obtain ⟨k3, c3, l3, d3, rfl⟩ := O3.shape
  try simp only at O3
  have bN := ba w3 (.cells #[.slice k3 m.kept.length c3, .slice l3 m.late.length d3, .int .i64 m.lock] 26)
  have b4 := belowThen b3 bN
  have X4 := X2.below b4
  have N4 := Bx.new w3 [.slice k3 m.kept.length c3, .slice l3 m.late.length d3, .int .i64 m.lock] 26
  have O4 := O3.below bN
  have P4 := O2.below b4
  have CS4 := dHide (dUnhide CS _ b4)
  have B4 := belowThen B2 b4
  clear C1 b3 O3 CS X2 O2 B2 b4 bN
  have y0 := X4 0 _ rfl
  have y1 := X4 1 _ rfl
  have y2 := X4 2 _ rfl
  go_wp2_with fail
  generalize hbn : w3.heap.size = bn at *
  generalize w3.alloc (.cells #[.slice k3 m.kept.length c3, .slice l3 m.late.length d3, .int .i64 m.lock] 26) = w4 at *
  clear hbn
  refine (dUnhide CS4).mono ?_
  rintro e w5 ⟨⟨u5, rfl, O5⟩, b5⟩
  obtain ⟨k5, c5, l5, d5, rfl⟩ := O5.shape
  try simp only at O5
  have bO := ba w5 (.cells #[.slice k5 m.kept.length c5, .slice l5 m.late.length d5, .int .i64 m.lock] 26)
  have b6 := belowThen b5 bO
  have X6 := X4.below b6
  have N6 := N4.below b6
  have O6 := O4.below b6
  have P6 := P4.below b6
  have B6 := belowThen B4 b6
  clear CS4 b5 O5 X4 N4 O4 P4 B4 b6 bO y0 y1 y2
  have y0 := X6 0 _ rfl
  have y1 := X6 1 _ rfl
  have y2 := X6 2 _ rfl
  have n0 := N6 0 _ rfl
  have n1 := N6 1 _ rfl
  have n2 := N6 2 _ rfl
  cases mb
  · have hm := dUnhide TF m rfl
    clear TS TF
    rcases hm with rfl | rfl
    · go_wp2
      go_ret
      exact ⟨rfl, B6⟩
    · have ez : zeroSt.kept.length = 0 := rfl
      have ez2 : zeroSt.late.length = 0 := rfl
      have ez3 : zeroSt.lock = 0 := rfl
      simp only [ez, ez2, ez3] at *
      by_cases hs0 : s.late.length = 0
      · go_wp2
        go_ret
        exact ⟨rfl, B6⟩
      · have hs1 : ¬ (0 : Int) = (s.late.length : Int) := by omega
        have hs2 : ((0 : Int) == (s.late.length : Int)) = false := by simpa using hs1
        go_wp2
        go_ret
        exact ⟨rfl, B6⟩
  · obtain ⟨hsr, hmr, hml, hmx, hmk, hmo⟩ := dUnhide TS m rfl
    clear TS TF
    have HL := dHide hml
    have HX := dHide hmx
    have HK := dHide hmk
    have HO := dHide hmo
    have HG : Hid (∀ y, getM s y = getL s.kept y) := fun y => by unfold getM; exact if_pos hsr
    have hml0 : m.kept.length ≤ 9223372036854775807 := by have := hmr.1.1; omega
    have hsl0 : s.late.length ≤ 9223372036854775807 := by have := hsr.2.1.1; omega
    clear hmx hmk hmo hml
    go_wp2
    have CK := dHide fun W (hb : Below (w5.alloc (.cells #[.slice k5 m.kept.length c5, .slice l5 m.late.length d5, .int .i64 m.lock] 26)).heap.size (w5.alloc (.cells #[.slice k5 m.kept.length c5, .slice l5 m.late.length d5, .int .i64 m.lock] 26)) W) => (implStoreOk_any _ m W (O6.below hb).rs (stP_fit hmr)).mono fun e w' h => (⟨h.1.of_yes hmr, h.2⟩ : e = .returned (.bool true) ∧ Below W.heap.size W w')
    have CG0 := dHide fun y W (hb : Below (w5.alloc (.cells #[.slice k5 m.kept.length c5, .slice l5 m.late.length d5, .int .i64 m.lock] 26)).heap.size (w5.alloc (.cells #[.slice k5 m.kept.length c5, .slice l5 m.late.length d5, .int .i64 m.lock] 26)) W) => specGet_any _ s y W (P6.below hb).rs hf
    have HKR := dHide fun W (hb : Below (w5.alloc (.cells #[.slice k5 m.kept.length c5, .slice l5 m.late.length d5, .int .i64 m.lock] 26)).heap.size (w5.alloc (.cells #[.slice k5 m.kept.length c5, .slice l5 m.late.length d5, .int .i64 m.lock] 26)) W) => rs_kept (O6.below hb).rs
    have HLR := dHide fun W (hb : Below (w5.alloc (.cells #[.slice k5 m.kept.length c5, .slice l5 m.late.length d5, .int .i64 m.lock] 26)).heap.size (w5.alloc (.cells #[.slice k5 m.kept.length c5, .slice l5 m.late.length d5, .int .i64 m.lock] 26)) W) => rs_late (P6.below hb).rs
    generalize w5.alloc (.cells #[.slice k5 m.kept.length c5, .slice l5 m.late.length d5, .int .i64 m.lock] 26) = w6 at *
    clear hsr hmr hf y0 y1 y2 n0 n1 n2 O6 P6
    go_loopw [9] (fun xv wr => ∃ k : Nat, xv = .int .i64 (k : Int) ∧ k ≤ m.kept.length ∧ Below w6.heap.size w6 wr) (fun xv _ => m.kept.length - (intOf xv).toNat)
    case atStart => exact ⟨0, rfl, Nat.zero_le _, Below.refl _ _⟩
    case round =>
      obtain ⟨k, rfl, hk, hb⟩ := hrel
      have X7 := X6.below hb
      have N7 := N6.below hb
      have n0 := N7 0 _ rfl
      by_cases hlt : (k : Int) < (m.kept.length : Int)
      · have hkl : k < m.kept.length := by omega
        obtain ⟨nb, no, rfl, hc⟩ := (dUnhide HKR wr hb).ent hkl
        have HXC := dHide fun W (hB : Below wr.heap.size wr W) => by
          obtain ⟨nb', no', e', hc'⟩ := (dUnhide HKR W (belowThen hb hB)).ent hkl
          cases e'
          exact hc' k hkl
        have HOk := dHide (dUnhide HO _ (List.getElem_mem hkl))
        have CG1 := dHide fun W (hB : Below wr.heap.size wr W) => dUnhide CG0 m.kept[k].pl W (belowThen hb hB)
        rw [dUnhide HG] at CG1
        generalize m.kept[k] = x at *
        clear hc
        have PP : Hid (∀ W, Below wr.heap.size wr W → (W.cell? ⟨bx, 0, none⟩ = some (.slice ka s.kept.length kc) ∧ W.cell? ⟨bx, 1, none⟩ = some (.slice la s.late.length lc) ∧ W.cell? ⟨bx, 2, none⟩ = some (.int .i64 s.lock)) ∧ W.cell? ⟨bn, 0, none⟩ = some (.slice (some ⟨nb, no, none⟩) m.kept.length c3) ∧ W.cell? ⟨nb, no + k * 4, none⟩ = some (.int .i64 x.pl)) := fun W hB => ⟨⟨(X7.below hB) 0 _ rfl, (X7.below hB) 1 _ rfl, (X7.below hB) 2 _ rfl⟩, (N7.below hB) 0 _ rfl, (dUnhide HXC W hB).1⟩
        obtain ⟨⟨q0, q1, q2⟩, q3, q4⟩ := dUnhide PP wr (Below.refl _ _)
        have bdr : Below wr.heap.size wr wr.drew := (Below.refl _ _).drew
        generalize getL s.kept x.pl = G at *
        obtain ⟨ge, gb, hG⟩ : ∃ (ge : Ent) (gb : Bool), findT G = .tuple #[.agg #[.int .i64 ge.pl, .int .i64 ge.wave, .bool ge.hole, .string ge.data], .bool gb] ∧ ((gb = true ∧ G = some ge) ∨ (gb = false ∧ G = none)) := by
          cases G with
          | none => exact ⟨noEnt, false, rfl, .inr ⟨rfl, rfl⟩⟩
          | some e => exact ⟨e, true, rfl, .inl ⟨rfl, rfl⟩⟩
        have CG : Hid (∀ W, Below wr.heap.size wr W → Calls Try.prog 17 #[.agg #[.slice ka s.kept.length kc, .slice la s.late.length lc, .int .i64 s.lock], .int .i64 x.pl] W fun r w' => r = .returned (.tuple #[.agg #[.int .i64 ge.pl, .int .i64 ge.wave, .bool ge.hole, .string ge.data], .bool gb]) ∧ Below W.heap.size W w') := fun W hB => by have q := dUnhide CG1 W hB; rw [hG.1] at q; exact q
        have HGE := dHide hG.2
        clear CG1 hG n0
        go_wp2_with fail
        go_cut [10, 11] (fun s10 s11 wx => ∃ b1, s10 = .pointer (some ⟨b1, 0, none⟩) ∧ s11 = .bool gb ∧ Bx wx b1 [.int .i64 ge.pl, .int .i64 ge.wave, .bool ge.hole, .string ge.data] ∧ Below wr.heap.size wr wx)
        case first =>
          refine wp_region_noPanic ?_
          refine wp_region_held_drew (S := fun W => (W.cell? ⟨bx, 0, none⟩ = some (.slice ka s.kept.length kc) ∧ W.cell? ⟨bx, 1, none⟩ = some (.slice la s.late.length lc) ∧ W.cell? ⟨bx, 2, none⟩ = some (.int .i64 s.lock)) ∧ W.cell? ⟨bn, 0, none⟩ = some (.slice (some ⟨nb, no, none⟩) m.kept.length c3) ∧ W.cell? ⟨nb, no + k * 4, none⟩ = some (.int .i64 x.pl)) (by kernel_rfl) (by first | with_reducible exact dUnhide PP _ hwd | exact dUnhide PP _ (Below.refl _ _) | exact dUnhide PP _ bdr | go_keep) (fun hHeld => ?_)
          have hwd : Below wr.heap.size wr wr.drew := (Below.refl _ _).drew
          generalize wr.drew = wd at *
          refine wpAnyH_take (i := 0) (oi := { dst := some 59, op := Op.load 26 (Operand.tmp 3), type := 26, pos := "laws.go:447", after := #[], guard := none }) (v := ?_) rfl (by kernel_rfl) (by kernel_rfl) (by kernel_rfl) (fun _ _ _ h => h) (Or.inl ⟨by rfl, ?_⟩) (by assumption) ?_
          rotate_left 1
          · intro w hSw
            (try dsimp only at hSw)
            first | (go_simp; done) | (go_simp; with_reducible rfl)
          try simp only [Act.put, List.setIfInBounds_toArray, List.set_cons_zero, List.set_cons_succ]
          refine wpAnyH_take (i := 1) (oi := { dst := some 60, op := Op.fieldAddr 26 (Operand.tmp 5) 0, type := 0, pos := "laws.go:447", after := #[], guard := none }) (v := ?_) rfl (by kernel_rfl) (by kernel_rfl) (by kernel_rfl) (fun _ _ _ h => h) (Or.inl ⟨by rfl, ?_⟩) (by assumption) ?_
          rotate_left 1
          · intro w hSw
            (try dsimp only at hSw)
            first | (go_simp; done) | (go_simp; with_reducible rfl)
          try simp only [Act.put, List.setIfInBounds_toArray, List.set_cons_zero, List.set_cons_succ]
          refine wpAnyH_take (i := 2) (oi := { dst := some 61, op := Op.load 24 (Operand.tmp 60), type := 24, pos := "laws.go:447", after := #[{ on := 1, ground := Ground.data }], guard := none }) (v := ?_) rfl (by kernel_rfl) (by kernel_rfl) (by kernel_rfl) (fun _ _ _ h => h) (Or.inl ⟨by rfl, ?_⟩) (by assumption) ?_
          rotate_left 1
          · intro w hSw
            (try dsimp only at hSw)
            first | (go_simp; done) | (go_simp; with_reducible rfl)
          try simp only [Act.put, List.setIfInBounds_toArray, List.set_cons_zero, List.set_cons_succ]
          refine wpAnyH_take (i := 3) (oi := { dst := some 62, op := Op.move (Operand.tmp 9), type := 3, pos := "laws.go:447", after := #[], guard := none }) (v := ?_) rfl (by kernel_rfl) (by kernel_rfl) (by kernel_rfl) (fun _ _ _ h => h) (Or.inl ⟨by rfl, ?_⟩) (by assumption) ?_
          rotate_left 1
          · intro w hSw
            (try dsimp only at hSw)
            first | (go_simp; done) | (go_simp; with_reducible rfl)
          try simp only [Act.put, List.setIfInBounds_toArray, List.set_cons_zero, List.set_cons_succ]
          refine wpAnyH_take (i := 4) (oi := { dst := some 63, op := Op.indexAddr 24 (Operand.tmp 61) (Operand.tmp 62), type := 0, pos := "laws.go:447", after := #[{ on := 2, ground := Ground.data }, { on := 3, ground := Ground.data }], guard := none }) (v := ?_) rfl (by kernel_rfl) (by kernel_rfl) (by kernel_rfl) (fun _ _ _ h => h) (Or.inl ⟨by rfl, ?_⟩) (by assumption) ?_
          rotate_left 1
          · intro w hSw
            (try dsimp only at hSw)
            first | (go_simp; done) | (go_simp; with_reducible rfl)
          try simp only [Act.put, List.setIfInBounds_toArray, List.set_cons_zero, List.set_cons_succ]
          refine wpAnyH_take (i := 5) (oi := { dst := some 64, op := Op.fieldAddr 28 (Operand.tmp 63) 0, type := 0, pos := "laws.go:447", after := #[{ on := 4, ground := Ground.data }], guard := none }) (v := ?_) rfl (by kernel_rfl) (by kernel_rfl) (by kernel_rfl) (fun _ _ _ h => h) (Or.inl ⟨by rfl, ?_⟩) (by assumption) ?_
          rotate_left 1
          · intro w hSw
            (try dsimp only at hSw)
            first | (go_simp; done) | (go_simp; with_reducible rfl)
          try simp only [Act.put, List.setIfInBounds_toArray, List.set_cons_zero, List.set_cons_succ]
          refine wpAnyH_take (i := 6) (oi := { dst := some 65, op := Op.load 3 (Operand.tmp 64), type := 3, pos := "laws.go:447", after := #[{ on := 5, ground := Ground.data }], guard := none }) (v := ?_) rfl (by kernel_rfl) (by kernel_rfl) (by kernel_rfl) (fun _ _ _ h => h) (Or.inl ⟨by rfl, ?_⟩) (by assumption) ?_
          rotate_left 1
          · intro w hSw
            (try dsimp only at hSw)
            first | (go_simp; done) | (go_simp; with_reducible rfl)
          try simp only [Act.put, List.setIfInBounds_toArray, List.set_cons_zero, List.set_cons_succ]
          refine wpAnyH_ready (rs := [7, 11]) (by kernel_rfl) (by simp) ?_
          refine AllReadyH.cons (o := { dst := some 66, op := Op.call { callee := Callee.value (Operand.func 17), args := #[Operand.tmp 59, Operand.tmp 65], argTypes := #[26, 3] }, type := 35, pos := "laws.go:447", after := #[{ on := 0, ground := Ground.data }, { on := 6, ground := Ground.data }], guard := none }) rfl (fun K hK => ?_) (AllReadyH.cons (o := { dst := some 10, op := Op.alloc 28, type := 0, pos := "laws.go:447", after := #[], guard := none }) rfl (fun K hK => ?_) AllReadyH.nil)
          · go_simp
            refine (dUnhide CG _ hwd).mono ?_
            rintro r wn ⟨rfl, bn⟩
            try replace N1 := N1.below bn
            try (replace lt1 : b1 < wn.heap.size := by have := bn.size; omega)
            replace hwd := belowThen hwd bn
            clear bn
            generalize wn = wd at *
            (try go_wp2_with fail)
            refine hK.out _ _ (by first | with_reducible exact dUnhide PP _ hwd | exact dUnhide PP _ (Below.refl _ _) | exact dUnhide PP _ bdr | go_keep) (fun hHeld => ?_)
            clear hK K
            try simp only [Act.put, List.setIfInBounds_toArray, List.set_cons_zero, List.set_cons_succ]
            refine wpAnyH_take (i := 8) (oi := { dst := some 58, op := Op.move (Operand.tmp 66), type := 35, pos := "laws.go:447", after := #[{ on := 7, ground := Ground.data }], guard := none }) (v := ?_) rfl (by kernel_rfl) (by kernel_rfl) (by kernel_rfl) (fun _ _ _ h => h) (Or.inl ⟨by rfl, ?_⟩) (by assumption) ?_
            rotate_left 1
            · intro w hSw
              (try dsimp only at hSw)
              first | (go_simp; done) | (go_simp; with_reducible rfl)
            try simp only [Act.put, List.setIfInBounds_toArray, List.set_cons_zero, List.set_cons_succ]
            refine wpAnyH_take (i := 9) (oi := { dst := some 67, op := Op.extract (Operand.tmp 58) 0, type := 28, pos := "laws.go:447", after := #[{ on := 8, ground := Ground.data }], guard := none }) (v := ?_) rfl (by kernel_rfl) (by kernel_rfl) (by kernel_rfl) (fun _ _ _ h => h) (Or.inl ⟨by rfl, ?_⟩) (by assumption) ?_
            rotate_left 1
            · intro w hSw
              (try dsimp only at hSw)
              first | (go_simp; done) | (go_simp; with_reducible rfl)
            try simp only [Act.put, List.setIfInBounds_toArray, List.set_cons_zero, List.set_cons_succ]
            refine wpAnyH_take (i := 10) (oi := { dst := some 68, op := Op.extract (Operand.tmp 58) 1, type := 4, pos := "laws.go:447", after := #[{ on := 8, ground := Ground.data }, { on := 12, ground := Ground.gcOnly Departure.lateStores }], guard := none }) (v := ?_) rfl (by kernel_rfl) (by kernel_rfl) (by kernel_rfl) (fun _ _ _ h => h) (Or.inl ⟨by rfl, ?_⟩) (by assumption) ?_
            rotate_left 1
            · intro w hSw
              (try dsimp only at hSw)
              first | (go_simp; done) | (go_simp; with_reducible rfl)
            try simp only [Act.put, List.setIfInBounds_toArray, List.set_cons_zero, List.set_cons_succ]
            refine wpAnyH_ready (rs := [11]) (by kernel_rfl) (by simp) ?_
            refine AllReadyH.cons (o := { dst := some 10, op := Op.alloc 28, type := 0, pos := "laws.go:447", after := #[], guard := none }) rfl (fun K hK => ?_) AllReadyH.nil
            go_simp
            have N1 := BxZ.new (B := 0) wd [.int .i64 0, .int .i64 0, .bool false, .string ⟨#[]⟩] 28 (Nat.zero_le _)
            have es : (wd.alloc (.cells #[.int .i64 0, .int .i64 0, .bool false, .string ⟨#[]⟩] 28)).heap.size = wd.heap.size + 1 := by simp
            have ln1 : wr.heap.size ≤ wd.heap.size := hwd.size
            replace hwd := belowThen hwd (ba wd (.cells #[.int .i64 0, .int .i64 0, .bool false, .string ⟨#[]⟩] 28))
            have lt1 : wd.heap.size < (wd.alloc (.cells #[.int .i64 0, .int .i64 0, .bool false, .string ⟨#[]⟩] 28)).heap.size := by omega
            clear es
            generalize wd.heap.size = b1 at *
            generalize wd.alloc (.cells #[.int .i64 0, .int .i64 0, .bool false, .string ⟨#[]⟩] 28) = wd at *
            refine hK.out _ _ (by first | with_reducible exact dUnhide PP _ hwd | exact dUnhide PP _ (Below.refl _ _) | exact dUnhide PP _ bdr | go_keep) (fun hHeld => ?_)
            clear hK K
            try simp only [Act.put, List.setIfInBounds_toArray, List.set_cons_zero, List.set_cons_succ]
            refine wpAnyH_ready (rs := [12]) (by kernel_rfl) (by simp) ?_
            refine AllReadyH.cons (o := { dst := none, op := Op.store 28 (Operand.tmp 10) (Operand.tmp 67), type := 0, pos := "laws.go:447", after := #[{ on := 11, ground := Ground.data }, { on := 9, ground := Ground.data }, { on := 7, ground := Ground.chain }, { on := 0, ground := Ground.phase }, { on := 1, ground := Ground.phase }, { on := 2, ground := Ground.phase }, { on := 3, ground := Ground.phase }, { on := 4, ground := Ground.phase }, { on := 5, ground := Ground.phase }, { on := 6, ground := Ground.phase }, { on := 7, ground := Ground.phase }, { on := 8, ground := Ground.phase }, { on := 9, ground := Ground.phase }, { on := 10, ground := Ground.textOnly Departure.lateStores }, { on := 11, ground := Ground.phase }], guard := none }) rfl (fun K hK => ?_) AllReadyH.nil
            obtain ⟨g0, h0⟩ := N1.2 0 _ rfl
            obtain ⟨g1, h1⟩ := N1.2 1 _ rfl
            obtain ⟨g2, h2⟩ := N1.2 2 _ rfl
            obtain ⟨g3, h3⟩ := N1.2 3 _ rfl
            go_simp
            have M1 := (((N1.put 0 (.int .i64 ge.pl)).put 1 (.int .i64 ge.wave)).put 2 (.bool ge.hole)).put 3 (.string ge.data)
            replace hwd := (((hwd.setCell (p := ⟨b1, 0, none⟩) ln1 (.int .i64 ge.pl)).setCell (p := ⟨b1, 1, none⟩) ln1 (.int .i64 ge.wave)).setCell (p := ⟨b1, 2, none⟩) ln1 (.bool ge.hole)).setCell (p := ⟨b1, 3, none⟩) ln1 (.string ge.data)
            clear g0 g1 g2 g3 h0 h1 h2 h3
            generalize (((wd.setCell ⟨b1, 0, none⟩ (.int .i64 ge.pl)).setCell ⟨b1, 1, none⟩ (.int .i64 ge.wave)).setCell ⟨b1, 2, none⟩ (.bool ge.hole)).setCell ⟨b1, 3, none⟩ (.string ge.data) = wd at *
            refine hK.out _ _ (by first | with_reducible exact dUnhide PP _ hwd | exact dUnhide PP _ (Below.refl _ _) | exact dUnhide PP _ bdr | go_keep) (fun hHeld => ?_)
            clear hK K
            try simp only [Act.put, List.setIfInBounds_toArray, List.set_cons_zero, List.set_cons_succ]
            refine wpAnyH_take (i := 13) (oi := { dst := some 11, op := Op.assign (Operand.tmp 68), type := 4, pos := "laws.go:447", after := #[{ on := 10, ground := Ground.data }, { on := 12, ground := Ground.chain }, { on := 0, ground := Ground.phase }, { on := 1, ground := Ground.phase }, { on := 2, ground := Ground.phase }, { on := 3, ground := Ground.phase }, { on := 4, ground := Ground.phase }, { on := 5, ground := Ground.phase }, { on := 6, ground := Ground.phase }, { on := 7, ground := Ground.phase }, { on := 8, ground := Ground.phase }, { on := 9, ground := Ground.phase }, { on := 10, ground := Ground.phase }, { on := 11, ground := Ground.phase }, { on := 12, ground := Ground.phase }], guard := none }) (v := ?_) rfl (by kernel_rfl) (by kernel_rfl) (by kernel_rfl) (fun _ _ _ h => h) (Or.inl ⟨by rfl, ?_⟩) (by assumption) ?_
            rotate_left 1
            · intro w hSw
              (try dsimp only at hSw)
              first | (go_simp; done) | (go_simp; with_reducible rfl)
            try simp only [Act.put, List.setIfInBounds_toArray, List.set_cons_zero, List.set_cons_succ]
            refine wpAnyH_done (by kernel_rfl) ?_ _
            refine NoPanic.normal ?_
            go_wp2_with fail
            go_meet
            case rel => exact ⟨b1, rfl, rfl, M1.bx, hwd⟩
          · go_simp
            have N1 := BxZ.new (B := 0) wd [.int .i64 0, .int .i64 0, .bool false, .string ⟨#[]⟩] 28 (Nat.zero_le _)
            have es : (wd.alloc (.cells #[.int .i64 0, .int .i64 0, .bool false, .string ⟨#[]⟩] 28)).heap.size = wd.heap.size + 1 := by simp
            have ln1 : wr.heap.size ≤ wd.heap.size := hwd.size
            replace hwd := belowThen hwd (ba wd (.cells #[.int .i64 0, .int .i64 0, .bool false, .string ⟨#[]⟩] 28))
            have lt1 : wd.heap.size < (wd.alloc (.cells #[.int .i64 0, .int .i64 0, .bool false, .string ⟨#[]⟩] 28)).heap.size := by omega
            clear es
            generalize wd.heap.size = b1 at *
            generalize wd.alloc (.cells #[.int .i64 0, .int .i64 0, .bool false, .string ⟨#[]⟩] 28) = wd at *
            refine hK.out _ _ (by first | with_reducible exact dUnhide PP _ hwd | exact dUnhide PP _ (Below.refl _ _) | exact dUnhide PP _ bdr | go_keep) (fun hHeld => ?_)
            clear hK K
            try simp only [Act.put, List.setIfInBounds_toArray, List.set_cons_zero, List.set_cons_succ]
            refine wpAnyH_ready (rs := [7]) (by kernel_rfl) (by simp) ?_
            refine AllReadyH.cons (o := { dst := some 66, op := Op.call { callee := Callee.value (Operand.func 17), args := #[Operand.tmp 59, Operand.tmp 65], argTypes := #[26, 3] }, type := 35, pos := "laws.go:447", after := #[{ on := 0, ground := Ground.data }, { on := 6, ground := Ground.data }], guard := none }) rfl (fun K hK => ?_) AllReadyH.nil
            go_simp
            refine (dUnhide CG _ hwd).mono ?_
            rintro r wn ⟨rfl, bn⟩
            try replace N1 := N1.below bn
            try (replace lt1 : b1 < wn.heap.size := by have := bn.size; omega)
            replace hwd := belowThen hwd bn
            clear bn
            generalize wn = wd at *
            (try go_wp2_with fail)
            refine hK.out _ _ (by first | with_reducible exact dUnhide PP _ hwd | exact dUnhide PP _ (Below.refl _ _) | exact dUnhide PP _ bdr | go_keep) (fun hHeld => ?_)
            clear hK K
            try simp only [Act.put, List.setIfInBounds_toArray, List.set_cons_zero, List.set_cons_succ]
            refine wpAnyH_take (i := 8) (oi := { dst := some 58, op := Op.move (Operand.tmp 66), type := 35, pos := "laws.go:447", after := #[{ on := 7, ground := Ground.data }], guard := none }) (v := ?_) rfl (by kernel_rfl) (by kernel_rfl) (by kernel_rfl) (fun _ _ _ h => h) (Or.inl ⟨by rfl, ?_⟩) (by assumption) ?_
            rotate_left 1
            · intro w hSw
              (try dsimp only at hSw)
              first | (go_simp; done) | (go_simp; with_reducible rfl)
            try simp only [Act.put, List.setIfInBounds_toArray, List.set_cons_zero, List.set_cons_succ]
            refine wpAnyH_take (i := 9) (oi := { dst := some 67, op := Op.extract (Operand.tmp 58) 0, type := 28, pos := "laws.go:447", after := #[{ on := 8, ground := Ground.data }], guard := none }) (v := ?_) rfl (by kernel_rfl) (by kernel_rfl) (by kernel_rfl) (fun _ _ _ h => h) (Or.inl ⟨by rfl, ?_⟩) (by assumption) ?_
            rotate_left 1
            · intro w hSw
              (try dsimp only at hSw)
              first | (go_simp; done) | (go_simp; with_reducible rfl)
            try simp only [Act.put, List.setIfInBounds_toArray, List.set_cons_zero, List.set_cons_succ]
            refine wpAnyH_take (i := 10) (oi := { dst := some 68, op := Op.extract (Operand.tmp 58) 1, type := 4, pos := "laws.go:447", after := #[{ on := 8, ground := Ground.data }, { on := 12, ground := Ground.gcOnly Departure.lateStores }], guard := none }) (v := ?_) rfl (by kernel_rfl) (by kernel_rfl) (by kernel_rfl) (fun _ _ _ h => h) (Or.inl ⟨by rfl, ?_⟩) (by assumption) ?_
            rotate_left 1
            · intro w hSw
              (try dsimp only at hSw)
              first | (go_simp; done) | (go_simp; with_reducible rfl)
            try simp only [Act.put, List.setIfInBounds_toArray, List.set_cons_zero, List.set_cons_succ]
            refine wpAnyH_ready (rs := [12]) (by kernel_rfl) (by simp) ?_
            refine AllReadyH.cons (o := { dst := none, op := Op.store 28 (Operand.tmp 10) (Operand.tmp 67), type := 0, pos := "laws.go:447", after := #[{ on := 11, ground := Ground.data }, { on := 9, ground := Ground.data }, { on := 7, ground := Ground.chain }, { on := 0, ground := Ground.phase }, { on := 1, ground := Ground.phase }, { on := 2, ground := Ground.phase }, { on := 3, ground := Ground.phase }, { on := 4, ground := Ground.phase }, { on := 5, ground := Ground.phase }, { on := 6, ground := Ground.phase }, { on := 7, ground := Ground.phase }, { on := 8, ground := Ground.phase }, { on := 9, ground := Ground.phase }, { on := 10, ground := Ground.textOnly Departure.lateStores }, { on := 11, ground := Ground.phase }], guard := none }) rfl (fun K hK => ?_) AllReadyH.nil
            obtain ⟨g0, h0⟩ := N1.2 0 _ rfl
            obtain ⟨g1, h1⟩ := N1.2 1 _ rfl
            obtain ⟨g2, h2⟩ := N1.2 2 _ rfl
            obtain ⟨g3, h3⟩ := N1.2 3 _ rfl
            go_simp
            have M1 := (((N1.put 0 (.int .i64 ge.pl)).put 1 (.int .i64 ge.wave)).put 2 (.bool ge.hole)).put 3 (.string ge.data)
            replace hwd := (((hwd.setCell (p := ⟨b1, 0, none⟩) ln1 (.int .i64 ge.pl)).setCell (p := ⟨b1, 1, none⟩) ln1 (.int .i64 ge.wave)).setCell (p := ⟨b1, 2, none⟩) ln1 (.bool ge.hole)).setCell (p := ⟨b1, 3, none⟩) ln1 (.string ge.data)
            clear g0 g1 g2 g3 h0 h1 h2 h3
            generalize (((wd.setCell ⟨b1, 0, none⟩ (.int .i64 ge.pl)).setCell ⟨b1, 1, none⟩ (.int .i64 ge.wave)).setCell ⟨b1, 2, none⟩ (.bool ge.hole)).setCell ⟨b1, 3, none⟩ (.string ge.data) = wd at *
            refine hK.out _ _ (by first | with_reducible exact dUnhide PP _ hwd | exact dUnhide PP _ (Below.refl _ _) | exact dUnhide PP _ bdr | go_keep) (fun hHeld => ?_)
            clear hK K
            try simp only [Act.put, List.setIfInBounds_toArray, List.set_cons_zero, List.set_cons_succ]
            refine wpAnyH_take (i := 13) (oi := { dst := some 11, op := Op.assign (Operand.tmp 68), type := 4, pos := "laws.go:447", after := #[{ on := 10, ground := Ground.data }, { on := 12, ground := Ground.chain }, { on := 0, ground := Ground.phase }, { on := 1, ground := Ground.phase }, { on := 2, ground := Ground.phase }, { on := 3, ground := Ground.phase }, { on := 4, ground := Ground.phase }, { on := 5, ground := Ground.phase }, { on := 6, ground := Ground.phase }, { on := 7, ground := Ground.phase }, { on := 8, ground := Ground.phase }, { on := 9, ground := Ground.phase }, { on := 10, ground := Ground.phase }, { on := 11, ground := Ground.phase }, { on := 12, ground := Ground.phase }], guard := none }) (v := ?_) rfl (by kernel_rfl) (by kernel_rfl) (by kernel_rfl) (fun _ _ _ h => h) (Or.inl ⟨by rfl, ?_⟩) (by assumption) ?_
            rotate_left 1
            · intro w hSw
              (try dsimp only at hSw)
              first | (go_simp; done) | (go_simp; with_reducible rfl)
            try simp only [Act.put, List.setIfInBounds_toArray, List.set_cons_zero, List.set_cons_succ]
            refine wpAnyH_done (by kernel_rfl) ?_ _
            refine NoPanic.normal ?_
            go_wp2_with fail
            go_meet
            case rel => exact ⟨b1, rfl, rfl, M1.bx, hwd⟩
        case rest =>
          obtain ⟨b1, rfl, rfl, M1, bx7⟩ := hcut
          generalize wc = wx at *
          clear q0 q1 q2 q3 q4
          obtain ⟨⟨q0, q1, q2⟩, q3, -⟩ := dUnhide PP wx bx7
          obtain ⟨u0, u1, u2, u3⟩ := dUnhide HXC wx bx7
          have s0 := M1 0 _ rfl
          have s1 := M1 1 _ rfl
          have s2 := M1 2 _ rfl
          have s3 := M1 3 _ rfl
          clear CG bdr M1
          go_wp2_with fail
          go_cut [12] (fun s12 wy => ∃ sb, s12 = .bool sb ∧ Hid (FlagIs sb (G = some x)) ∧ Below wr.heap.size wr wy)
          case first =>
            rcases dUnhide HGE with ⟨rfl, hGe⟩ | ⟨rfl, hGe⟩
            · have HSE : Hid (∀ sb' : Bool, (sb' = true ↔ ge = x) → FlagIs sb' (G = some x)) := fun sb' h => by show sb' = true ↔ _; rw [h, hGe]; simp
              clear HGE hGe PP HXC
              have h4 := fourWays ge x
              rcases h4 with w1 | ⟨w1, w2⟩ | ⟨w1, w2, w3⟩ | ⟨w1, w2, w3, w4⟩ | rfl
              case inr.inr.inr.inr =>
                have G1 := dHide (dUnhide HSE true ⟨fun _ => rfl, fun _ => rfl⟩)
                clear HSE
                go_wp2
                go_quiet (fail)
                go_wp2_with fail
                go_meet
                case rel => exact ⟨true, rfl, G1, below_drewN bx7 _⟩
              all_goals
                have G1 := dHide (dUnhide HSE false ⟨fun h => (by cases h), fun h => by subst h; simp at *⟩)
                clear HSE
                go_wp2
                go_quiet (fail)
                go_wp2_with fail
                go_meet
                case rel => exact ⟨false, rfl, G1, below_drewN bx7 _⟩
            · have G1 : Hid (FlagIs false (G = some x)) := ⟨fun h => (by cases h), fun h => by rw [hGe] at h; cases h⟩
              clear HGE hGe PP HXC
              go_wp2
              go_quiet (fail)
              go_wp2_with fail
              go_meet
              case rel => exact ⟨false, rfl, G1, below_drewN bx7 _⟩
          case rest =>
            obtain ⟨sb0, rfl, HS0, by7⟩ := hcut
            generalize wc = wy at *
            clear q0 q1 q2 q3 u0 u1 u2 u3 s0 s1 s2 s3 bx7 HGE PP
            have hby := by7
            clear by7
            have HB0 := dHide hby
            go_wp2
            go_loopw [12, 13] (fun s12 jv wq => ∃ (j : Nat) (sb : Bool), jv = .int .i64 (j : Int) ∧ s12 = .bool sb ∧ j ≤ s.late.length ∧ Hid (FlagIs sb (G = some x ∨ ∃ i, ∃ h : i < s.late.length, i < j ∧ s.late[i] = x)) ∧ Below wr.heap.size wr wq) (fun _ jv _ => s.late.length - (intOf jv).toNat)
            case atStart => exact ⟨0, sb0, rfl, rfl, Nat.zero_le _, (by have q : sb0 = true ↔ G = some x := dUnhide HS0; show sb0 = true ↔ _; rw [q]; exact ⟨.inl, fun h => h.resolve_right fun ⟨i, _, h, _⟩ => by omega⟩), hby⟩
            case round =>
              clear hby HB0 HS0
              obtain ⟨j, sb, rfl, rfl, hj, hsb, hby⟩ := hrel
              have XX := X7.below hby
              have NN := N7.below hby
              have q1 := XX 1 _ rfl
              have q3 := NN 0 _ rfl
              by_cases hltj : (j : Int) < (s.late.length : Int)
              · have hjl : j < s.late.length := by omega
                obtain ⟨lb, lo, rfl, hcl⟩ := (dUnhide HLR _ (belowThen hb hby)).ent hjl
                obtain ⟨s0, s1, s2, s3⟩ := hcl j hjl
                obtain ⟨u0, u1, u2, u3⟩ := dUnhide HXC _ hby
                have HST : Hid (∀ sb' : Bool, (sb' = true ↔ sb = true ∨ s.late[j] = x) → FlagIs sb' (G = some x ∨ ∃ i, ∃ h : i < s.late.length, i < j + 1 ∧ s.late[i] = x)) := fun sb' h => by
                  have q : sb = true ↔ _ := dUnhide hsb
                  show sb' = true ↔ _
                  rw [h, q]
                  constructor
                  · rintro ((h | ⟨i, hi, h1, h2⟩) | h)
                    · exact .inl h
                    · exact .inr ⟨i, hi, by omega, h2⟩
                    · exact .inr ⟨j, hjl, by omega, h⟩
                  · rintro (h | ⟨i, hi, h1, h2⟩)
                    · exact .inl (.inl h)
                    · rcases Nat.lt_or_ge i j with h3 | h3
                      · exact .inl (.inr ⟨i, hi, h3, h2⟩)
                      · obtain rfl : i = j := by omega
                        exact .inr h2
                clear hcl hsb
                generalize s.late[j] = y at *
                cases sb
                · have h4 := fourWays y x
                  rcases h4 with w1 | ⟨w1, w2⟩ | ⟨w1, w2, w3⟩ | ⟨w1, w2, w3, w4⟩ | rfl
                  case inr.inr.inr.inr =>
                    have G1 := dHide (dUnhide HST true ⟨fun _ => .inr rfl, fun _ => rfl⟩)
                    clear HST
                    go_wp2
                    go_quiet (fail)
                    go_wp2
                    go_roundw
                    case rel => exact ⟨j + 1, true, by go_num, rfl, by omega, dUnhide G1, below_drewN hby _⟩
                    case measure => simp [intOf]; omega
                  all_goals
                    have G1 := dHide (dUnhide HST false ⟨fun h => (by cases h), fun h => by rcases h with h | h; (· cases h); (· subst h; simp at *)⟩)
                    clear HST
                    go_wp2
                    go_quiet (fail)
                    go_wp2
                    go_roundw
                    case rel => exact ⟨j + 1, false, by go_num, rfl, by omega, dUnhide G1, below_drewN hby _⟩
                    case measure => simp [intOf]; omega
                · have G1 := dHide (dUnhide HST true ⟨fun _ => .inl rfl, fun _ => rfl⟩)
                  clear HST
                  go_wp2
                  go_quiet (fail)
                  go_wp2
                  go_roundw
                  case rel => exact ⟨j + 1, true, by go_num, rfl, by omega, dUnhide G1, below_drewN hby _⟩
                  case measure => simp [intOf]; omega
              · have hst : sb = true := (show sb = true ↔ _ from dUnhide hsb).2 (by
                  rcases dUnhide HOk with h | h
                  · exact .inl h
                  · obtain ⟨i, hi, e⟩ := List.getElem_of_mem h
                    exact .inr ⟨i, hi, by omega, e⟩)
                subst hst
                clear hsb HXC HOk
                have hB9 := belowThen hb hby
                go_wp2
                go_roundw
                case rel => exact ⟨k + 1, by go_num, by omega, hB9⟩
                case measure => simp [intOf]; omega
      · have hl0 : m.late.length = 0 := by rw [dUnhide HL]; rfl
        have B7 := belowThen B6 hb
        have y0 := X7 0 _ rfl
        have y2 := X7 2 _ rfl
        have n1 := N7 1 _ rfl
        have n2 := N7 2 _ rfl
        have CK7 := dHide (dUnhide CK wr hb)
        rw [hl0] at n1 CK7
        rw [dUnhide HX] at n2 CK7
        have hmk := dUnhide HK
        have hmd : (s.kept.length : Int) ≤ (m.kept.length : Int) := by omega
        clear hl0 HL HX HK HO HG HKR HLR CG0 CK X7 N7 X6 N6
        go_wp2_with fail
        refine (dUnhide CK7).mono ?_
        rintro e w9 ⟨rfl, b9⟩
        have B9 := belowThen B7 b9
        clear CK7 b9
        go_wp2
        go_ret
        exact ⟨rfl, B9⟩
end Go.Proofs.Ytejmfohkobhidaa
