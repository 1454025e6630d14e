/- The walk of the law FnSealed. -/
import Derived.Test.YtenpnnocdjakdaaStX
import Derived.Test.YtenpnnocdjakdaaImFl
import Derived.Test.YtenpnnocdjakdaaBigB
import Derived.Test.YtenpnnocdjakdaaBuA
namespace Go.Proofs.Ytenpnnocdjakdaa
open Go.ChangeShapes Go.WideShapes Go.ChangeAt Go.RowKit
set_option linter.unusedVariables false
set_option linter.unusedSimpArgs false

theorem seal_false {s m : St} {x : Int} (h : sealM s x = (m, false)) : m = s ∨ m = zeroSt := by
  by_cases hs : stP s
  · by_cases hp : sealP s x
    · rw [sealM_yes hs hp] at h; cases h
    · rw [sealM_no hs hp] at h; cases h; exact .inl rfl
  · rw [sealM_bad hs] at h; cases h; exact .inr rfl
theorem seal_true {s m : St} {x : Int} (h : sealM s x = (m, true)) : stP m ∧ m.late = [] ∧ m.lock = max s.lock x := by
  by_cases hs : stP s
  · by_cases hp : sealP s x
    · have hr := seal_right (k := x) hs
      rw [sealM_yes hs hp] at h hr
      cases h
      exact ⟨hr, rfl, rfl⟩
    · rw [sealM_no hs hp] at h; cases h
  · rw [sealM_bad hs] at h; cases h
theorem seal_put {m : St} (h : stP m) (hl : m.late = []) (k : Nat) (h1 : 1 ≤ k) (h6 : k ≤ 6) : (putM m ⟨(k : Int) * 4294967296 + 1, 0, false, ⟨#[]⟩⟩).2 = decide (m.lock < (k : Int)) := by
  have he : entP ⟨(k : Int) * 4294967296 + 1, 0, false, ⟨#[]⟩⟩ := by
    refine ⟨?_, by simp, by simp, by simp, Nat.zero_le _, by simp⟩
    unfold isPl
    simp only
    omega
  have ht : takesP m ⟨(k : Int) * 4294967296 + 1, 0, false, ⟨#[]⟩⟩ ↔ m.lock < (k : Int) := by
    unfold takesP
    simp only [if_true]
    have : ((k : Int) * 4294967296 + 1) / 4294967296 = (k : Int) := by omega
    rw [this]
  by_cases hp : m.lock < (k : Int)
  · rw [putM_yes h ⟨he, ht.2 hp, by simp [hl]⟩]
    exact (decide_eq_true hp).symm
  · rw [putM_no h fun h' => hp (ht.1 h'.2.1)]
    exact (decide_eq_false hp).symm
set_option maxHeartbeats 8000000 in
set_option maxRecDepth 100000 in
theorem walkFnSealed (a0 : Option Addr) (len0 cap0 : Nat) (z0 : List Int) (w : World) (w0 : IsRow .u8 w a0 len0 cap0 z0) :
    Calls Try.prog 3 #[.slice a0 len0 cap0] w fun e w' => e = .returned (.bool true) ∧ Below w.heap.size w w' := by
  have hr := row8_of w0
  have hlen := hr.1
  clear w0
  by_cases hbig : 1048576 < len0
  · have CB := dHide (big_yes a0 len0 cap0 hbig hlen)
    go_enter Try.func3, Try.ntmps3
    go_wp2_with fail
    refine (dUnhide CB _).mono ?_
    rintro e w1 ⟨rfl, rfl⟩
    go_wp2
    go_ret
    exact ⟨rfl, Below.refl _ _⟩
  have CB := dHide (big_no a0 len0 cap0 hbig)
  have CD := dHide (drawStoreSeal_any a0 len0 cap0 w hr)
  have ba : ∀ (w : World) o, Below w.heap.size w (w.alloc o) := fun w o => (Below.refl _ _).alloc (Nat.le_refl _) o
  clear hbig hr
  go_enter Try.func3, Try.ntmps3
  go_wp2_with fail
  refine (dUnhide CB _).mono ?_
  rintro e w1 ⟨rfl, rfl⟩
  clear CB
  go_wp2_with fail
  refine (dUnhide CD).mono ?_
  rintro e w1 ⟨⟨u, x, hx, rfl, s, O1, hf, hkl, hll⟩, B1⟩
  obtain ⟨ka, kc, la, lc, rfl⟩ := O1.shape
  clear CD
  have bA := ba w1 (.cells #[.slice ka s.kept.length kc, .slice la s.late.length lc, .int .i64 s.lock] 26)
  have X2 := Bx.new w1 [.slice ka s.kept.length kc, .slice la s.late.length lc, .int .i64 s.lock] 26
  have O2 := O1.below bA
  have B2 := belowThen B1 bA
  clear O1 B1 bA
  go_wp2_with fail
  generalize hbx : w1.heap.size = bx at *
  generalize w1.alloc (.cells #[.slice ka s.kept.length kc, .slice la s.late.length lc, .int .i64 s.lock] 26) = w2 at *
  clear hbx
  have TS : Hid (∀ m, sealM s x = (m, true) → stP m ∧ m.late = [] ∧ m.lock = max s.lock x) := fun m h => seal_true h
  have TF : Hid (∀ m, sealM s x = (m, false) → m = s ∨ m = zeroSt) := fun m h => seal_false h
  have C1 := dHide (implSeal_any _ s x w2 O2.rs hf)
  have CS := dHide fun W (hb : Below w2.heap.size w2 W) => specSeal_any _ s x W (O2.below hb).rs hf
  generalize hM : sealM s x = M at *
  clear hM
  obtain ⟨m, mb⟩ := M
  refine (dUnhide C1).mono ?_
  rintro e w3 ⟨⟨u3, rfl, O3⟩, b3⟩
  obtain ⟨k3, c3, l3, d3, rfl⟩ := O3.shape
  try simp only at O3
  have bN := ba w3 (.cells #[.slice k3 m.kept.length c3, .slice l3 m.late.length d3, .int .i64 m.lock] 26)
  have b4 := belowThen b3 bN
  have X4 := X2.below b4
  have N4 := Bx.new w3 [.slice k3 m.kept.length c3, .slice l3 m.late.length d3, .int .i64 m.lock] 26
  have O4 := O3.below bN
  have CS4 := dHide (dUnhide CS _ b4)
  have B4 := belowThen B2 b4
  clear C1 b3 O3 CS X2 O2 B2 b4 bN
  have y0 := X4 0 _ rfl
  have y1 := X4 1 _ rfl
  have y2 := X4 2 _ rfl
  go_wp2_with fail
  generalize hbn : w3.heap.size = bn at *
  generalize w3.alloc (.cells #[.slice k3 m.kept.length c3, .slice l3 m.late.length d3, .int .i64 m.lock] 26) = w4 at *
  clear hbn
  refine (dUnhide CS4).mono ?_
  rintro e w5 ⟨⟨u5, rfl, O5⟩, b5⟩
  obtain ⟨k5, c5, l5, d5, rfl⟩ := O5.shape
  try simp only at O5
  have bO := ba w5 (.cells #[.slice k5 m.kept.length c5, .slice l5 m.late.length d5, .int .i64 m.lock] 26)
  have b6 := belowThen b5 bO
  have X6 := X4.below b6
  have N6 := N4.below b6
  have O6 := O4.below b6
  have B6 := belowThen B4 b6
  clear CS4 b5 O5 X4 N4 O4 B4 b6 bO y0 y1 y2
  have y0 := X6 0 _ rfl
  have y1 := X6 1 _ rfl
  have y2 := X6 2 _ rfl
  have n0 := N6 0 _ rfl
  have n1 := N6 1 _ rfl
  have n2 := N6 2 _ rfl
  cases mb
  · have hm := dUnhide TF m rfl
    clear TS TF
    rcases hm with rfl | rfl
    · go_wp2
      go_ret
      exact ⟨rfl, B6⟩
    · have ez : zeroSt.kept.length = 0 := rfl
      have ez2 : zeroSt.late.length = 0 := rfl
      have ez3 : zeroSt.lock = 0 := rfl
      simp only [ez, ez2, ez3] at *
      by_cases hs0 : s.kept.length = 0
      · go_wp2
        go_ret
        exact ⟨rfl, B6⟩
      · have hs1 : ¬ (0 : Int) = (s.kept.length : Int) := by omega
        go_wp2
        go_ret
        exact ⟨rfl, B6⟩
  · obtain ⟨hmr, hml, hmx⟩ := dUnhide TS m rfl
    clear TS TF
    have HP : Hid (∀ k : Nat, 1 ≤ k → k ≤ 6 → (putM m ⟨(k : Int) * 4294967296 + 1, 0, false, ⟨#[]⟩⟩).2 = decide (m.lock < (k : Int))) := fun k h1 h6 => seal_put hmr hml k h1 h6
    have CPut := dHide fun W (hb : Below (w5.alloc (.cells #[.slice k5 m.kept.length c5, .slice l5 m.late.length d5, .int .i64 m.lock] 26)).heap.size (w5.alloc (.cells #[.slice k5 m.kept.length c5, .slice l5 m.late.length d5, .int .i64 m.lock] 26)) W) e he => implPut_any _ m e W (O6.below hb).rs (stP_fit hmr) he
    have HL := dHide hml
    have HX := dHide hmx
    clear hmr hml hmx
    go_wp2
    generalize w5.alloc (.cells #[.slice k5 m.kept.length c5, .slice l5 m.late.length d5, .int .i64 m.lock] 26) = w6 at *
    go_loopw [9] (fun xv wr => ∃ k : Nat, xv = .int .i64 (k : Int) ∧ 1 ≤ k ∧ k ≤ 7 ∧ Below w6.heap.size w6 wr) (fun xv _ => 8 - (intOf xv).toNat)
    case atStart => exact ⟨1, rfl, Nat.le_refl _, by omega, Below.refl _ _⟩
    case round =>
      obtain ⟨k, rfl, hk1, hk7, hb⟩ := hrel
      by_cases h6 : (k : Int) ≤ 6
      · have hk6 : k ≤ 6 := by omega
        have CM := dHide fun W => implMake_yes (k : Int) 1 (by omega) (by omega) (by omega) (by omega) W
        have HPk := dHide (dUnhide HP k hk1 hk6)
        go_wp2_with fail
        refine (dUnhide CM _).mono ?_
        rintro e w7 ⟨rfl, b7⟩
        have hb7 := belowThen hb b7
        have N7 := N6.below hb7
        have p0 := N7 0 _ rfl
        have p1 := N7 1 _ rfl
        have p2 := N7 2 _ rfl
        have CP := dHide (dUnhide CPut w7 hb7 ⟨(k : Int) * 4294967296 + 1, 0, false, ⟨#[]⟩⟩ ⟨by simp only; omega, by simp only; omega, by simp only; omega, by simp only; omega, Nat.zero_le _⟩)
        unfold Ent.val at CP
        simp only at CP
        clear CM b7 hb
        go_wp2_with fail
        refine (dUnhide CP).mono ?_
        rintro e w8 ⟨⟨u8, rfl, O8⟩, b8⟩
        rw [dUnhide HPk]
        obtain ⟨k8, c8, l8, d8, rfl⟩ := O8.shape
        have hb8 := belowThen hb7 b8
        have b9 := ba w8 (.cells #[.slice k8 (putM m ⟨(k : Int) * 4294967296 + 1, 0, false, ⟨#[]⟩⟩).1.kept.length c8, .slice l8 (putM m ⟨(k : Int) * 4294967296 + 1, 0, false, ⟨#[]⟩⟩).1.late.length d8, .int .i64 (putM m ⟨(k : Int) * 4294967296 + 1, 0, false, ⟨#[]⟩⟩).1.lock] 26)
        have hb9 := belowThen hb8 b9
        have N9 := N6.below hb9
        have r2 := N9 2 _ rfl
        clear O8 b8 b9 CP HPk N7 N9 p0 p1 p2 hb7 hb8
        generalize putM m ⟨(k : Int) * 4294967296 + 1, 0, false, ⟨#[]⟩⟩ = PM at *
        by_cases hlk : m.lock < (k : Int)
        · have hd : decide (m.lock < (k : Int)) = true := decide_eq_true hlk
          go_wp2
          go_roundw
          case rel => exact ⟨k + 1, by go_num, by omega, by omega, hb9⟩
          case measure => simp [intOf]; omega
        · have hd : decide (m.lock < (k : Int)) = false := decide_eq_false hlk
          go_wp2
          go_roundw
          case rel => exact ⟨k + 1, by go_num, by omega, by omega, hb9⟩
          case measure => simp [intOf]; omega
      · have X7 := X6.below hb
        have N7 := N6.below hb
        have B7 := belowThen B6 hb
        have hlx := dUnhide HX
        have hl0 : m.late.length = 0 := by rw [dUnhide HL]; rfl
        clear y0 y1 y2 n0 n1 n2 X6 N6
        have y2 := X7 2 _ rfl
        have n1 := N7 1 _ rfl
        have n2 := N7 2 _ rfl
        rw [hl0] at n1
        clear hl0 HP CPut HL HX X7 N7
        by_cases hle : s.lock ≤ x
        · have hm : m.lock = x := by rw [hlx]; omega
          rw [hm] at n2
          go_wp2
          all_goals
            go_ret
            exact ⟨rfl, B7⟩
        · have hm : m.lock = s.lock := by rw [hlx]; omega
          rw [hm] at n2
          have hxl : x ≤ s.lock := by omega
          have hne : ¬ s.lock = x := by omega
          go_wp2
          all_goals
            go_ret
            exact ⟨rfl, B7⟩
end Go.Proofs.Ytenpnnocdjakdaa
