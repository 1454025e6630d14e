/- impl's Store.settled. -/
import Derived.Test.YtejmfohkobhidaaImFh
import Derived.Test.YtejmfohkobhidaaImFg
import Derived.Test.YtejmfohkobhidaaStG
import Derived.Test.YtejmfohkobhidaaStL
namespace Go.Proofs.Ytejmfohkobhidaa
open Go.ChangeShapes Go.WideShapes Go.ChangeAt Go.RowKit
set_option linter.unusedVariables false
set_option linter.unusedSimpArgs false
set_option maxRecDepth 100000

theorem zeroE_one : ∀ u ∈ (Value.agg #[.int .i64 0, .int .i64 0, .bool false, .string ⟨#[]⟩]).cells.toList, u.oneCell' = true := by
  have e : (Value.agg #[.int .i64 0, .int .i64 0, .bool false, .string ⟨#[]⟩]).cells = #[.int .i64 0, .int .i64 0, .bool false, .string ⟨#[]⟩] := by kernel_rfl
  rw [e]
  intro u hu
  simp at hu
  rcases hu with rfl | rfl | rfl | rfl <;> rfl
/-- What an insertion leaves of a slice that another may share nothing with. -/
theorem sep_after {w : World} {base2 : Nat} {v v' lv : Value} {ls : List Ent} (hl : ApE w base2 lv ls) (h : touch v = none ∨ touch v ≠ touch lv) (ht : touch v' = touch v ∨ ∀ k, touch v' = some k → w.heap.size ≤ k) : touch v' = none ∨ touch v' ≠ touch lv := by
  rcases ht with e | e
  · rw [e]; exact h
  · cases hv : touch v' with
    | none => exact .inl rfl
    | some j =>
      right
      intro e2
      have h1 := e j hv
      have h2 := (hl.touched elemE e2.symm).2
      omega
theorem touch_after {w : World} {v v' : Value} {b : Nat} (hb : b < w.heap.size) (h : touch v ≠ some b) (ht : touch v' = touch v ∨ ∀ k, touch v' = some k → w.heap.size ≤ k) : touch v' ≠ some b := fun e => by
  rcases ht with h' | h'
  · exact h (h' ▸ e)
  · have := h' b e; omega
set_option maxHeartbeats 8000000 in
theorem settled_any (v : Value) (s : St) (keep : Int) (w : World) (hv : Rs w v s) (hs : stP s) (hk0 : 0 ≤ keep) (hk1 : keep ≤ 1048575) :
    Calls Try.prog 45 #[v, .int .i64 keep] w fun r w' => (∃ u, r = .returned (.tuple #[u, .bool (crashM s keep).2]) ∧ OwS w' w.heap.size u (crashM s keep).1) ∧ Below w.heap.size w w' := by
  have ba : ∀ (w : World) o, Below w.heap.size w (w.alloc o) := fun w o => (Below.refl _ _).alloc (Nat.le_refl _) o
  have hkl : s.kept.length ≤ 200 := hs.1.1
  have hll : s.late.length ≤ 20 := hs.2.1.1
  have C2 := dHide fun W (hb : Below w.heap.size w W) => copied_any v s W (hv.below hb) (by omega) (by omega)
  have PN : Hid (200 < (crashK s keep).length → crashM s keep = (s, false)) := fun h => crashM_no hs fun hp => by have := hp.2.2; omega
  have PY : Hid (¬ 200 < (crashK s keep).length → crashM s keep = (⟨crashK s keep, [], s.lock⟩, true)) := fun h => crashM_yes hs ⟨hk0, hk1, by omega⟩
  have CRK : Hid (crashK s keep = crashL s.kept keep s.late 0) := rfl
  have HASC : Hid (∀ k, ascE (crashL s.kept keep (s.late.take k) 0)) := fun k => (ascE_iff _).2 (crashL_asc keep _ _ _ ((ascE_iff _).1 hs.2.2.1))
  obtain ⟨kv, lv, rfl, ⟨-, ka, kc, rfl, -, -⟩, ⟨-, la, lc, rfl, -, -⟩⟩ := hv
  clear hs
  generalize crashM s keep = M at *
  have X0 := (Bx.new w [.slice ka s.kept.length kc, .slice la s.late.length lc, .int .i64 s.lock] 26).below (ba _ (.cells #[.slice none 0 0, .slice none 0 0, .int .i64 0] 26))
  have Z0 := BxZ.new (B := w.heap.size) (w.alloc (.cells #[.slice ka s.kept.length kc, .slice la s.late.length lc, .int .i64 s.lock] 26)) [.slice none 0 0, .slice none 0 0, .int .i64 0] 26 (by simp)
  have B0 := belowThen (ba w (.cells #[.slice ka s.kept.length kc, .slice la s.late.length lc, .int .i64 s.lock] 26)) (ba _ (.cells #[.slice none 0 0, .slice none 0 0, .int .i64 0] 26))
  have e1 : (w.alloc (.cells #[.slice ka s.kept.length kc, .slice la s.late.length lc, .int .i64 s.lock] 26)).heap.size = w.heap.size + 1 := by simp
  rw [e1] at Z0
  clear e1
  go_enter Try.func45, Try.ntmps45
  go_wp2_with fail
  generalize (w.alloc (.cells #[.slice ka s.kept.length kc, .slice la s.late.length lc, .int .i64 s.lock] 26)).alloc (.cells #[.slice none 0 0, .slice none 0 0, .int .i64 0] 26) = w0 at *
  have hlt := Z0.lt
  refine (dUnhide C2 _ B0).mono ?_
  rintro r w1 ⟨⟨u, rfl, O1⟩, b1⟩
  obtain ⟨kv1, lv1, rfl, P1, P2, SEP⟩ := O1
  obtain ⟨a1, c1, rfl⟩ := ApR.slice elemE P1
  obtain ⟨a2, c2, rfl⟩ := ApR.slice elemE P2
  have X1 := (X0.below b1).below (ba _ (.cells #[.slice a1 s.kept.length c1, .slice a2 s.late.length c2, .int .i64 s.lock] 26))
  have Z1 := (Z0.below b1).below (ba _ (.cells #[.slice a1 s.kept.length c1, .slice a2 s.late.length c2, .int .i64 s.lock] 26))
  have N1 := BxZ.new (B := w0.heap.size) w1 [.slice a1 s.kept.length c1, .slice a2 s.late.length c2, .int .i64 s.lock] 26 b1.size
  have B1 := belowThen (belowThen B0 b1) (ba _ (.cells #[.slice a1 s.kept.length c1, .slice a2 s.late.length c2, .int .i64 s.lock] 26))
  have Q1 := P1.below (ba _ (.cells #[.slice a1 s.kept.length c1, .slice a2 s.late.length c2, .int .i64 s.lock] 26))
  have Q2 := P2.below (ba _ (.cells #[.slice a1 s.kept.length c1, .slice a2 s.late.length c2, .int .i64 s.lock] 26))
  have T1 : touch (.slice a1 s.kept.length c1) ≠ some w1.heap.size := fun e => by have := (P1.touched elemE e).2; omega
  have T2 : touch (.slice a2 s.late.length c2) ≠ some w1.heap.size := fun e => by have := (P2.touched elemE e).2; omega
  clear X0 Z0 B0 b1 P1 P2
  go_wp2_with fail
  generalize hw2 : w1.alloc (.cells #[.slice a1 s.kept.length c1, .slice a2 s.late.length c2, .int .i64 s.lock] 26) = w2 at *
  clear hw2
  generalize w1.heap.size = bo at *
  refine (sorted_any _ _ s.lock _ a1 a2 s.kept.length c1 s.late.length c2 rfl rfl).mono ?_
  rintro r w3 ⟨rfl, b3⟩
  have X3 := X1.below b3
  have Z3 := Z1.below b3
  have N3 := N1.below b3
  have B3 := belowThen B1 b3
  have Q31 := Q1.below b3
  have Q32 := Q2.below b3
  clear X1 Z1 N1 B1 b3 Q1 Q2
  have k0 := (N3.2 0 _ rfl).1
  have k1 := (N3.2 1 _ rfl).1
  have k2 := (N3.2 2 _ rfl).1
  have hbo : w0.heap.size ≤ bo := N3.1
  go_wp2
  clear k0 k1 k2
  go_loopw [7, 17] (fun kv x wr => ∃ k : Nat, x = .int .i64 (k : Int) ∧ k ≤ s.late.length ∧ ApE wr w0.heap.size kv (crashL s.kept keep (s.late.take k) 0) ∧ ApE wr w0.heap.size (.slice a2 s.late.length c2) s.late ∧ (touch kv = none ∨ touch kv ≠ touch (.slice a2 s.late.length c2)) ∧ touch kv ≠ some bo ∧ BxZ wr w0.heap.size bo [.slice a1 s.kept.length c1, .slice a2 s.late.length c2, .int .i64 s.lock] ∧ Bx wr w.heap.size [.slice ka s.kept.length kc, .slice la s.late.length lc, .int .i64 s.lock] ∧ BxZ wr w.heap.size (w.heap.size + 1) [.slice none 0 0, .slice none 0 0, .int .i64 0] ∧ Below w.heap.size w wr ∧ w0.heap.size ≤ wr.heap.size) (fun _ x _ => s.late.length - (intOf x).toNat)
  case atStart => exact ⟨0, rfl, Nat.zero_le _, Q31, Q32, SEP, T1, N3, X3, Z3, B3, by have := N3.lt; omega⟩
  case round =>
    obtain ⟨k, rfl, hk, P, PL, SP, TB, N, X, Z, B, hsz⟩ := hrel
    clear Q31 Q32 SEP T1 N3 X3 Z3 B3
    by_cases hlt2 : (k : Int) < (s.late.length : Int)
    · have hkl2 : k < s.late.length := by omega
      have hT := dHide (List.take_succ_eq_append_getElem hkl2)
      have hS := dHide (crashL_snoc s.kept keep (s.late.take k) s.late[k] 0)
      have hlen0 := crashL_len keep (s.late.take k) s.kept 0
      have hlt0 : (s.late.take k).length = k := by simp; omega
      rw [hlt0] at hS hlen0
      have hS' : Hid (crashL s.kept keep (s.late.take (k + 1)) 0 = if bitE keep k then keepL s.late[k] (crashL s.kept keep (s.late.take k) 0) else crashL s.kept keep (s.late.take k) 0) := by rw [Hid, dUnhide hT, dUnhide hS]; simp
      obtain ⟨b, off, rfl, hc⟩ := (ApR.own elemE PL).rw.ent hkl2
      have hbit : Hid (bitE keep k = (bits .and .i64 (keep / 2 ^ k) 1 == 1)) := by rw [Hid, i64_and1E]; rfl
      obtain ⟨c0, c1', c2', c3⟩ := hc k hkl2
      have HA := dUnhide HASC k
      generalize s.late[k] = y at *
      generalize crashL s.kept keep (s.late.take k) 0 = L at *
      have hL : L.length ≤ 1048576 := by omega
      have CK := dHide fun W (hB : Below wr.heap.size wr W) => keep_any u7 L y W w0.heap.size (P.below hB) HA hL (Nat.le_trans hsz hB.size)
      obtain ⟨a6, c6, rfl⟩ := ApR.slice elemE P
      obtain ⟨yx, yw, yh, yd⟩ := y
      unfold Ent.val at CK
      simp only at *
      have hk64 : (k : Int) ≤ 64 := by omega
      have bA := ba wr (.cells #[.int .i64 yx, .int .i64 yw, .bool yh, .string yd] 28)
      have PA := dHide (P.below bA)
      have PLA := dHide (PL.below bA)
      have NA := dHide (N.below bA)
      have XA := dHide (X.below bA)
      have ZA := dHide (Z.below bA)
      have BA := dHide (belowThen B bA)
      have SPA := dHide SP
      have TBA := dHide TB
      have hszA := Nat.le_trans hsz bA.size
      clear hc hT hS hlt0 HA P PL N X Z B SP TB T2
      cases hq : bitE keep k with
      | true =>
        rw [hq] at hbit hS'
        have hbit' := (dUnhide hbit).symm
        have CK1 := dHide (dUnhide CK _ bA)
        clear hbit hq CK
        go_wp2_with fail
        refine (dUnhide CK1).mono ?_
        rintro r w7 ⟨v7, rfl, P7, g7, t7⟩
        have PA' := dUnhide PA
        have hp7 : Below w.heap.size w w7 := (dUnhide BA).grown g7 (dUnhide BA).size (fun j hj => by have := (PA'.touched elemE hj).1; omega)
        have PL7 := ApR.kept elemE (dUnhide PLA) g7 (by rcases dUnhide SPA with h | h; exact .inl h; exact .inr (fun e => h e.symm))
        have SP7 := sep_after (dUnhide PLA) (dUnhide SPA) t7
        have TB7 := touch_after (dUnhide NA).lt (dUnhide TBA) t7
        have N7 := (dUnhide NA).grown g7 (dUnhide TBA)
        have X7 := (dUnhide XA).grown g7 (touch_base elemE PA' (by omega))
        have Z7 := (dUnhide ZA).grown g7 (touch_base elemE PA' (by omega))
        have hsz7 := Nat.le_trans hszA g7.size
        have R7 := dHide (show ∀ k', k' = k + 1 → ∃ k2 : Nat, (Value.int .i64 (k' : Int)) = .int .i64 (k2 : Int) ∧ k2 ≤ s.late.length ∧ ApE w7 w0.heap.size v7 (crashL s.kept keep (s.late.take k2) 0) ∧ ApE w7 w0.heap.size (.slice (some ⟨b, off, none⟩) s.late.length c2) s.late ∧ (touch v7 = none ∨ touch v7 ≠ touch (.slice (some ⟨b, off, none⟩) s.late.length c2)) ∧ touch v7 ≠ some bo ∧ BxZ w7 w0.heap.size bo [.slice a1 s.kept.length c1, .slice (some ⟨b, off, none⟩) s.late.length c2, .int .i64 s.lock] ∧ Bx w7 w.heap.size [.slice ka s.kept.length kc, .slice la s.late.length lc, .int .i64 s.lock] ∧ BxZ w7 w.heap.size (w.heap.size + 1) [.slice none 0 0, .slice none 0 0, .int .i64 0] ∧ Below w.heap.size w w7 ∧ w0.heap.size ≤ w7.heap.size from fun k' e => ⟨k + 1, by rw [e], by omega, by rw [dUnhide hS']; exact P7, PL7, SP7, TB7, N7, X7, Z7, hp7, hsz7⟩)
        clear PA PLA SPA TBA NA XA ZA BA PA' hp7 PL7 SP7 TB7 N7 X7 Z7 hsz7 P7 g7 t7 CK1 hS'
        go_wp2
        go_roundw
        case rel =>
          have := dUnhide R7 (k + 1) rfl
          obtain ⟨k2, h1, h2⟩ := this
          exact ⟨k2, by rw [← h1]; go_num, h2⟩
        case measure => simp [intOf]; omega
      | false =>
        rw [hq] at hbit hS'
        have hbit' := (dUnhide hbit).symm
        clear hbit hq CK
        go_wp2
        go_roundw
        case rel => exact ⟨k + 1, by go_num, by omega, by rw [dUnhide hS']; exact dUnhide PA, dUnhide PLA, dUnhide SPA, dUnhide TBA, dUnhide NA, dUnhide XA, dUnhide ZA, dUnhide BA, hszA⟩
        case measure => simp [intOf]; omega
    · have e1 : s.late.take k = s.late := List.take_of_length_le (by omega)
      rw [e1, ← dUnhide CRK] at P
      obtain ⟨a6, c6, rfl⟩ := ApR.slice elemE P
      clear e1 HASC
      have hrb : w.heap.size + 1 < wr.heap.size := by omega
      by_cases hlen : (200 : Int) < ((crashK s keep).length : Int)
      · have eM := dUnhide PN (by omega)
        have hd : decide ((200 : Int) < ((crashK s keep).length : Int)) = true := decide_eq_true hlen
        have x0 := X 0 _ rfl
        have x1 := X 1 _ rfl
        have x2 := X 2 _ rfl
        clear PN PY P PL SP TB N X T2 CRK
        go_wp2_with fail
        refine (dUnhide C2 _ B).mono ?_
        rintro r w4 ⟨⟨u, rfl, O4⟩, b4⟩
        obtain ⟨ka4, kc4, la4, lc4, rfl⟩ := O4.shape
        have Z4 := Z.below b4
        obtain ⟨z0, f0⟩ := Z4.2 0 _ rfl
        obtain ⟨z1, f1⟩ := Z4.2 1 _ rfl
        obtain ⟨z2, f2⟩ := Z4.2 2 _ rfl
        obtain ⟨hx, hO⟩ := OwS.into O4 hrb Z4
        have BB := dHide (below_three (belowThen B b4) (Nat.le_succ w.heap.size) (.slice ka4 s.kept.length kc4) (.slice la4 s.late.length lc4) (.int .i64 s.lock))
        have HX := dHide hx
        have HO := dHide (hO.mono (base' := w.heap.size) (by omega))
        clear O4 Z4 hx hO b4 C2 Z B x0 x1 x2
        go_wp2
        generalize ((w4.setCell ⟨w.heap.size + 1, 0, none⟩ (.slice ka4 s.kept.length kc4)).setCell ⟨w.heap.size + 1, 1, none⟩ (.slice la4 s.late.length lc4)).setCell ⟨w.heap.size + 1, 2, none⟩ (.int .i64 s.lock) = V at *
        have q0 := dUnhide HX 0 _ rfl
        have q1 := dUnhide HX 1 _ rfl
        have q2 := dUnhide HX 2 _ rfl
        clear z0 z1 z2 f0 f1 f2
        subst eM
        refine bodyPost_ret (v := .tuple #[.agg #[.slice ka4 s.kept.length kc4, .slice la4 s.late.length lc4, .int .i64 s.lock], .bool false]) (by simp [results, Try.results45, go_sem, q0, q1, q2]) rfl ⟨⟨_, rfl, dUnhide HO⟩, dUnhide BB⟩
      · have eM := dUnhide PY (by omega)
        have hd : decide ((200 : Int) < ((crashK s keep).length : Int)) = false := decide_eq_false hlen
        generalize crashK s keep = KK at *
        have FIN : Hid (∀ w7, (wr.setCell ⟨bo, 0, none⟩ (.slice a6 KK.length c6)).grownBy w7 (touch (.slice a2 s.late.length c2)) → ApE w7 w0.heap.size (.slice a2 0 c2) [] → BxZ w7 w0.heap.size bo [.slice a6 KK.length c6, .slice a2 s.late.length c2, .int .i64 s.lock] ∧ BxZ w7 w.heap.size (w.heap.size + 1) [.slice none 0 0, .slice none 0 0, .int .i64 0] ∧ (Below w.heap.size w ((((w7.setCell ⟨bo, 1, none⟩ (.slice a2 0 c2)).setCell ⟨w.heap.size + 1, 0, none⟩ (.slice a6 KK.length c6)).setCell ⟨w.heap.size + 1, 1, none⟩ (.slice a2 0 c2)).setCell ⟨w.heap.size + 1, 2, none⟩ (.int .i64 s.lock))) ∧ Bx ((((w7.setCell ⟨bo, 1, none⟩ (.slice a2 0 c2)).setCell ⟨w.heap.size + 1, 0, none⟩ (.slice a6 KK.length c6)).setCell ⟨w.heap.size + 1, 1, none⟩ (.slice a2 0 c2)).setCell ⟨w.heap.size + 1, 2, none⟩ (.int .i64 s.lock)) (w.heap.size + 1) [.slice a6 KK.length c6, .slice a2 0 c2, .int .i64 s.lock] ∧ OwS ((((w7.setCell ⟨bo, 1, none⟩ (.slice a2 0 c2)).setCell ⟨w.heap.size + 1, 0, none⟩ (.slice a6 KK.length c6)).setCell ⟨w.heap.size + 1, 1, none⟩ (.slice a2 0 c2)).setCell ⟨w.heap.size + 1, 2, none⟩ (.int .i64 s.lock)) w.heap.size (.agg #[.slice a6 KK.length c6, .slice a2 0 c2, .int .i64 s.lock]) ⟨KK, [], s.lock⟩) := fun w7 g7 P7 => by
          have N1 := N.put 0 (.slice a6 KK.length c6)
          have PL1 := ApR.put elemE PL T2 (o' := 0) (.slice a6 KK.length c6)
          have PK1 := ApR.put elemE P TB (o' := 0) (.slice a6 KK.length c6)
          have Z1 := Z.far (b' := bo) (o := 0) (by omega) (.slice a6 KK.length c6)
          have B1 := B.setCell (p := ⟨bo, 0, none⟩) (show w.heap.size ≤ bo by omega) (.slice a6 KK.length c6)
          have N7 := N1.grown g7 T2
          have PK7 := ApR.kept elemE PK1 g7 (by
            rcases SP with h | h
            · by_cases h2 : touch (.slice a2 s.late.length c2) = none
              · exact .inl h2
              · exact .inr (by rw [h]; exact fun e => h2 e.symm)
            · exact .inr h)
          have Z7 := Z1.grown g7 (touch_base elemE PL1 (by omega))
          have B7 := B1.grown g7 B1.size (fun j hj => by have := (PL1.touched elemE hj).1; omega)
          have tt : touch (.slice a2 0 c2) = touch (.slice a2 s.late.length c2) := by cases a2 <;> rfl
          have PK8 := ApR.put elemE PK7 (b := bo) (o' := 1) TB (.slice a2 0 c2)
          have PL8 := ApR.put elemE P7 (b := bo) (o' := 1) (by rw [tt]; exact T2) (.slice a2 0 c2)
          have Z8 := Z7.far (b' := bo) (o := 1) (by omega) (.slice a2 0 c2)
          have B8 := B7.setCell (p := ⟨bo, 1, none⟩) (show w.heap.size ≤ bo by omega) (.slice a2 0 c2)
          have O8 : OwS (w7.setCell ⟨bo, 1, none⟩ (.slice a2 0 c2)) w0.heap.size (.agg #[.slice a6 KK.length c6, .slice a2 0 c2, .int .i64 s.lock]) ⟨KK, [], s.lock⟩ := ⟨_, _, rfl, PK8, PL8, by rw [tt]; exact SP⟩
          obtain ⟨hx, hO⟩ := OwS.into O8 (by omega) Z8
          exact ⟨N7, Z7, below_three B8 (Nat.le_succ w.heap.size) _ _ _, hx, hO.mono (base' := w.heap.size) (by omega)⟩
        have HPL := dHide (ApR.put elemE PL T2 (o' := 0) (.slice a6 KK.length c6))
        obtain ⟨n0, f0⟩ := N.2 0 _ rfl
        obtain ⟨n1, f1⟩ := N.2 1 _ rfl
        obtain ⟨n2, f2⟩ := N.2 2 _ rfl
        have hne : bo ≠ w.heap.size + 1 := by omega
        have hnil : a2 = none → s.late.length = 0 ∧ c2 = 0 := fun e => by
          subst e
          rcases PL with ⟨h, a, e⟩ | h
          · injection e with e1 e2 e3
            exact ⟨e2, e3⟩
          · rcases h.2 with ⟨e, h0⟩ | ⟨g, cap, cur, e, -⟩
            · injection e with e1 e2 e3
              exact ⟨e2, e3⟩
            · injection e with e1 e2 e3
              cases e1
        clear PN PY P PL SP TB N X Z B T2 C2
        generalize KK.length = kn at *
        subst eM
        cases a2 with
        | none =>
          obtain ⟨h1, h2⟩ := hnil rfl
          subst h2
          clear hnil
          rw [h1] at *
          go_wp2_with (refine wp_clearK elemE zeroE_one rfl _ rfl w0.heap.size _ s.late rfl (dUnhide HPL) ?_; intro w7 g7 h7; obtain ⟨_, _, _, e, P7⟩ := h7; cases e; obtain ⟨N7, Z7, B7, X7, O7⟩ := dUnhide FIN _ g7 P7; have HB := dHide B7; have HX := dHide X7; have HO := dHide O7; obtain ⟨n0, f0⟩ := N7.2 0 _ rfl; obtain ⟨n1, f1⟩ := N7.2 1 _ rfl; obtain ⟨n2, f2⟩ := N7.2 2 _ rfl; obtain ⟨z0, y0⟩ := Z7.2 0 _ rfl; obtain ⟨z1, y1⟩ := Z7.2 1 _ rfl; obtain ⟨z2, y2⟩ := Z7.2 2 _ rfl; clear N7 Z7 B7 X7 O7 g7 P7)
          generalize (((w7.setCell ⟨bo, 1, none⟩ (.slice none 0 0)).setCell ⟨w.heap.size + 1, 0, none⟩ (.slice a6 kn c6)).setCell ⟨w.heap.size + 1, 1, none⟩ (.slice none 0 0)).setCell ⟨w.heap.size + 1, 2, none⟩ (.int .i64 s.lock) = V at *
          have q0 := dUnhide HX 0 _ rfl
          have q1 := dUnhide HX 1 _ rfl
          have q2 := dUnhide HX 2 _ rfl
          clear z0 z1 z2 f0 f1 f2 y0 y1 y2 n0 n1 n2
          refine bodyPost_ret (v := .tuple #[.agg #[.slice a6 kn c6, .slice none 0 0, .int .i64 s.lock], .bool true]) (by simp [results, Try.results45, go_sem, q0, q1, q2]) rfl ⟨⟨_, rfl, dUnhide HO⟩, dUnhide HB⟩
        | some ad =>
          clear hnil
          go_wp2_with (refine wp_clearK elemE zeroE_one rfl _ rfl w0.heap.size _ s.late rfl (dUnhide HPL) ?_; intro w7 g7 h7; obtain ⟨_, _, _, e, P7⟩ := h7; cases e; obtain ⟨N7, Z7, B7, X7, O7⟩ := dUnhide FIN _ g7 P7; have HB := dHide B7; have HX := dHide X7; have HO := dHide O7; obtain ⟨n0, f0⟩ := N7.2 0 _ rfl; obtain ⟨n1, f1⟩ := N7.2 1 _ rfl; obtain ⟨n2, f2⟩ := N7.2 2 _ rfl; obtain ⟨z0, y0⟩ := Z7.2 0 _ rfl; obtain ⟨z1, y1⟩ := Z7.2 1 _ rfl; obtain ⟨z2, y2⟩ := Z7.2 2 _ rfl; clear N7 Z7 B7 X7 O7 g7 P7)
          generalize (((w7.setCell ⟨bo, 1, none⟩ (.slice (some ad) 0 c2)).setCell ⟨w.heap.size + 1, 0, none⟩ (.slice a6 kn c6)).setCell ⟨w.heap.size + 1, 1, none⟩ (.slice (some ad) 0 c2)).setCell ⟨w.heap.size + 1, 2, none⟩ (.int .i64 s.lock) = V at *
          have q0 := dUnhide HX 0 _ rfl
          have q1 := dUnhide HX 1 _ rfl
          have q2 := dUnhide HX 2 _ rfl
          clear z0 z1 z2 f0 f1 f2 y0 y1 y2 n0 n1 n2
          refine bodyPost_ret (v := .tuple #[.agg #[.slice a6 kn c6, .slice (some ad) 0 c2, .int .i64 s.lock], .bool true]) (by simp [results, Try.results45, go_sem, q0, q1, q2]) rfl ⟨⟨_, rfl, dUnhide HO⟩, dUnhide HB⟩
end Go.Proofs.Ytejmfohkobhidaa
