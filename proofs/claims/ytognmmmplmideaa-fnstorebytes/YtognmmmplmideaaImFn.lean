/- impl's StorePack. -/
import Derived.Test.YtognmmmplmideaaBuI
import Derived.Test.YtognmmmplmideaaImpCc
import Derived.Test.YtognmmmplmideaaStM
namespace Go.Proofs.Ytognmmmplmideaa
open Go.ChangeShapes Go.WideShapes Go.ChangeAt Go.RowKit
set_option linter.unusedVariables false
set_option linter.unusedSimpArgs false
set_option maxRecDepth 100000

theorem entP_bound {e : Ent} (h : entP e) : e.pl ≤ 9223372036854775807 ∧ 0 ≤ e.pl := by
  obtain ⟨⟨h0, h1, h2, h3, h4⟩, -⟩ := h
  omega
set_option maxHeartbeats 4000000 in
theorem implPack_any (v : Value) (s : St) (w : World) (hv : Rs w v s) (hf : fitS s) :
    Calls Try.prog 9 #[v] w fun r w' => (∃ u, r = .returned (.tuple #[u, .bool (packM s).2]) ∧ OwnB w' w.heap.size u (packM s).1) ∧ Below w.heap.size w w' := by
  have ba : ∀ (w : World) o, Below w.heap.size w (w.alloc o) := fun w o => (Below.refl _ _).alloc (Nat.le_refl _) o
  have C1 := dHide fun W (hb : Below w.heap.size w W) => implStoreOk_any v s W (hv.below hb) hf
  obtain ⟨kv, lv, rfl, rk, rl⟩ := hv
  have HK := dHide fun W (hb : Below w.heap.size w W) => rk.below hb
  obtain ⟨-, ka, kc, rfl, -, -⟩ := rk
  obtain ⟨-, la, lc, rfl, -, -⟩ := rl
  have GN : Hid (¬ packP s → packM s = ([], false)) := packM_no
  have GY : Hid (packP s → packM s = (packS s, true)) := packM_yes
  have PS : Hid (packS s = numB s.lock.toNat ++ numB s.kept.length ++ s.kept.flatMap packE) := rfl
  have PD : Hid (packP s ↔ stP s ∧ s.late = []) := Iff.rfl
  generalize packM s = M at *
  have X0 := Bx.new w [.slice ka s.kept.length kc, .slice la s.late.length lc, .int .i64 s.lock] 26
  have B0 := ba w (.cells #[.slice ka s.kept.length kc, .slice la s.late.length lc, .int .i64 s.lock] 26)
  clear hf
  go_enter Try.func9, Try.ntmps9
  go_wp2_with fail
  generalize w.alloc (.cells #[.slice ka s.kept.length kc, .slice la s.late.length lc, .int .i64 s.lock] 26) = w0 at *
  refine (dUnhide C1 _ B0).mono ?_
  rintro r w1 ⟨hr, b1⟩
  have B1 := belowThen B0 b1
  have X1 := X0.below b1
  clear B0 b1 X0 C1
  have p0 := X1 0 _ rfl
  have p1 := X1 1 _ rfl
  have p2 := X1 2 _ rfl
  by_cases hs : stP s
  · obtain rfl := hr.of_yes hs
    by_cases hn : s.late = []
    · have eM := dUnhide GY ((dUnhide PD).2 ⟨hs, hn⟩)
      have hl : s.kept.length ≤ 200 := hs.1.1
      have HE := dHide hs.1.2
      obtain ⟨ln, hln⟩ : ∃ ln : Nat, s.lock = (ln : Int) := ⟨s.lock.toNat, by have := hs.2.2.2.1; omega⟩
      have hl30 : ln ≤ 30 := by have := hs.2.2.2.2; omega
      have hl0 : ¬ (0 : Int) < (s.late.length : Int) := by simp [hn]
      have hd : decide ((0 : Int) < (s.late.length : Int)) = false := decide_eq_false hl0
      rw [dUnhide PS, hln, Int.toNat_natCast] at eM
      have HM := dHide eM
      have hsz := B1.size
      have hxw : w.heap.size < w1.heap.size := dCell_lt p0
      rw [hln] at p2 X1 ⊢
      clear hs hr GN GY PS PD hn hln eM
      have A1 := dHide (addNum_x w1.heap.size (.slice none 0 0) [] ln (by omega) w1 (OwnX.nil _ _) (by simp) (Nat.le_refl _))
      go_wp2_with fail
      refine (dUnhide A1).mono ?_
      rintro r w2 ⟨v2, rfl, O2, T2⟩
      have B2 := T2.below (by intro k hk; cases hk) B1 hsz
      have X2 := X1.grown T2.1 (by intro e; cases e)
      have hsz2 := T2.1.size
      clear X1 B1 p0 p1 p2 A1 T2
      have p0 := X2 0 _ rfl
      rw [List.nil_append] at O2
      have n1 := numB_len ln
      have n2 := numB_len s.kept.length
      have A2 := dHide (addNum_x w1.heap.size v2 (numB ln) s.kept.length (by omega) w2 O2 (by omega) hsz2)
      go_wp2_with fail
      refine (dUnhide A2).mono ?_
      rintro r w3 ⟨v3, rfl, O3, T3⟩
      have B3 := T3.below (fun k hk => by have := (O2.lt k hk).1; omega) B2 (by omega)
      have X3 := X2.grown T3.1 (fun e => by have := (O2.lt _ e).1; omega)
      have hsz3 := Nat.le_trans hsz2 T3.1.size
      clear X2 B2 p0 A2 T3 O2 hsz2
      have p0 := X3 0 _ rfl
      clear X3
      generalize hH : numB ln ++ numB s.kept.length = H at *
      have hHl : H.length ≤ 100 := by rw [← hH, List.length_append]; omega
      clear hH n1 n2
      go_wp2
      clear p0
      go_loopw [4, 27] (fun o xv wr => ∃ k : Nat, xv = .int .i64 (k : Int) ∧ k ≤ s.kept.length ∧ OwnX wr w1.heap.size o (H ++ (s.kept.take k).flatMap packE) ∧ Below w.heap.size w wr ∧ w1.heap.size ≤ wr.heap.size) (fun _ xv _ => s.kept.length - (intOf xv).toNat)
      case atStart => exact ⟨0, rfl, Nat.zero_le _, by simpa using O3, B3, hsz3⟩
      case round =>
        obtain ⟨k, rfl, hk, P, hb, hsr⟩ := hrel
        clear O3 B3
        by_cases hlt : (k : Int) < (s.kept.length : Int)
        · have hkl : k < s.kept.length := by omega
          have hT := dHide (flat_take s.kept k hkl)
          have hfl := flat_len s.kept k (dUnhide HE) hk
          have hep := dUnhide HE _ (List.getElem_mem hkl)
          obtain ⟨b, off, rfl, hc⟩ := (dUnhide HK wr hb).ent hkl
          obtain ⟨c0, c1, c2, c3⟩ := hc k hkl
          generalize s.kept[k] = y at *
          obtain ⟨yx, yw, yh, yd⟩ := y
          obtain ⟨px, rfl⟩ : ∃ px : Nat, yx = (px : Int) := ⟨yx.toNat, by have := hep.1.1; simp only at this; omega⟩
          obtain ⟨pw, rfl⟩ : ∃ pw : Nat, yw = (pw : Int) := ⟨yw.toNat, by have := hep.2.1; simp only at this; omega⟩
          have hpx : px ≤ 9223372036854775807 := by have := (entP_bound hep).1; simp only at this; omega
          have hpw : pw ≤ 9223372036854775807 := by have := hep.2.2.1; simp only at this; omega
          have hyd : yd.size ≤ 1048576 := by have := hep.2.2.2.2.1; simp only at this; omega
          have eP : packE ⟨(px : Int), (pw : Int), yh, yd⟩ = packB px pw yh yd.data.toList := by simp [packE]
          rw [eP] at hT
          simp only at *
          have bA := ba wr (.cells #[.int .i64 (px : Int), .int .i64 (pw : Int), .bool yh, .string yd] 66)
          have PA := P.kept bA
          have AE := dHide (addEntry_x w1.heap.size u4 (H ++ (s.kept.take k).flatMap packE) px pw yh yd hpx hpw hyd _ PA (by rw [List.length_append]; omega) (Nat.le_trans hsr bA.size))
          have FIN : Hid (∀ v5 w5, OwnX w5 w1.heap.size v5 ((H ++ (s.kept.take k).flatMap packE) ++ packB px pw yh yd.data.toList) → Onto (wr.alloc (.cells #[.int .i64 (px : Int), .int .i64 (pw : Int), .bool yh, .string yd] 66)) w5 u4 v5 → OwnX w5 w1.heap.size v5 (H ++ (s.kept.take (k + 1)).flatMap packE) ∧ Below w.heap.size w w5 ∧ w1.heap.size ≤ w5.heap.size) := fun v5 w5 h1 h2 => by
            refine ⟨by rw [dUnhide hT, ← List.append_assoc]; exact h1, h2.below (fun j hj => by have := (P.lt j hj).1; omega) (belowThen hb bA) (belowThen hb bA).size, Nat.le_trans (Nat.le_trans hsr bA.size) h2.1.size⟩
          clear hc hep hT PA P hb eP hfl bA
          go_wp2_with fail
          refine (dUnhide AE).mono ?_
          rintro r w5 ⟨v5, rfl, O5, T5⟩
          have F := dHide (dUnhide FIN v5 w5 O5 T5)
          clear O5 T5 FIN AE c0 c1 c2 c3
          go_wp2
          go_roundw
          case rel => exact ⟨k + 1, by go_num, by omega, (dUnhide F).1, (dUnhide F).2.1, (dUnhide F).2.2⟩
          case measure => simp [intOf]; omega
        · have e1 : s.kept.take k = s.kept := List.take_of_length_le (by omega)
          rw [e1] at P
          have e2 := dUnhide HM
          have HP := dHide ((P.mono (Nat.le_of_lt hxw)).own)
          clear e1 HE HK P HM
          subst e2
          go_wp2
          go_ret2
          exact ⟨⟨_, rfl, dUnhide HP⟩, hb⟩
    · have eM := dUnhide GN fun h => hn ((dUnhide PD).1 h).2
      subst eM
      have hl0 : (0 : Int) < (s.late.length : Int) := by have := List.length_pos_iff.2 hn; omega
      have hd : decide ((0 : Int) < (s.late.length : Int)) = true := decide_eq_true hl0
      clear hs hr GN GY PS PD hn HK
      go_wp2
      go_ret2
      exact ⟨⟨_, rfl, (OwnX.nil _ _).own⟩, B1⟩
  · obtain rfl := hr.of_no hs
    have eM := dUnhide GN fun h => hs ((dUnhide PD).1 h).1
    subst eM
    clear hs hr GN GY PS PD HK
    go_wp2
    go_ret2
    exact ⟨⟨_, rfl, (OwnX.nil _ _).own⟩, B1⟩
end Go.Proofs.Ytognmmmplmideaa
