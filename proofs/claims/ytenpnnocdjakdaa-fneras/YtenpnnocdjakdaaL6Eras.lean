/- The walk of the law FnEras. -/
import Derived.Test.YtenpnnocdjakdaaStY
import Derived.Test.YtenpnnocdjakdaaStZ
import Derived.Test.YtenpnnocdjakdaaStR
import Derived.Test.YtenpnnocdjakdaaErA
import Derived.Test.YtenpnnocdjakdaaImFk
import Derived.Test.YtenpnnocdjakdaaImFm
import Derived.Test.YtenpnnocdjakdaaBuB
import Derived.Test.YtenpnnocdjakdaaBoxQ
import Derived.Deep.RegionHeld3
import Derived.Test.YtenpnnocdjakdaaBigB
import Derived.Test.YtenpnnocdjakdaaBuA
namespace Go.Proofs.Ytenpnnocdjakdaa
open Go.ChangeShapes Go.WideShapes Go.ChangeAt Go.RowKit
set_option linter.unusedVariables false
set_option linter.unusedSimpArgs false

theorem findT_is (o : Option Ent) : findT o = .tuple #[(o.getD noEnt).val, .bool o.isSome] := by cases o <;> rfl
theorem made4 {w w' : World} {B : Nat} {a b c d : Value} {T : TypeId} (h : B ≤ w.heap.size) (hb : Below (w.alloc (.cells #[a, b, c, d] T)).heap.size (w.alloc (.cells #[a, b, c, d] T)) w') : BxZ w' B w.heap.size [a, b, c, d] :=
  (BxZ.new w [a, b, c, d] T h).below hb
theorem made4D {w w' : World} {B : Nat} {a b c d : Value} {T : TypeId} (h : B ≤ w.heap.size) (hb : Below (w.alloc (.cells #[a, b, c, d] T)).drew.heap.size (w.alloc (.cells #[a, b, c, d] T)).drew w') : BxZ w' B w.heap.size [a, b, c, d] :=
  made4 (T := T) h ⟨hb.os, hb.tape, hb.output, hb.size, hb.block⟩
theorem below_four {w0 w : World} {B rb : Nat} (h : Below B w0 w) (hb : B ≤ rb) (c0 c1 c2 c3 : Value) : Below B w0 ((((w.setCell ⟨rb, 0, none⟩ c0).setCell ⟨rb, 1, none⟩ c1).setCell ⟨rb, 2, none⟩ c2).setCell ⟨rb, 3, none⟩ c3) :=
  (((h.setCell (p := ⟨rb, 0, none⟩) hb c0).setCell (p := ⟨rb, 1, none⟩) hb c1).setCell (p := ⟨rb, 2, none⟩) hb c2).setCell (p := ⟨rb, 3, none⟩) hb c3
set_option maxHeartbeats 8000000 in
set_option maxRecDepth 100000 in
theorem walkFnEras (a0 : Option Addr) (len0 cap0 : Nat) (z0 : List Int) (w : World) (w0 : IsRow .u8 w a0 len0 cap0 z0) :
    Calls Try.prog 4 #[.slice a0 len0 cap0] w fun e w' => e = .returned (.bool true) ∧ Below w.heap.size w w' := by
  have hr := row8_of w0
  have hlen := hr.1
  clear w0
  by_cases hbig : 1048576 < len0
  · have CB := dHide (big_yes a0 len0 cap0 hbig hlen)
    go_enter Try.func4, Try.ntmps4
    go_wp2_with fail
    refine (dUnhide CB _).mono ?_
    rintro e w1 ⟨rfl, rfl⟩
    go_wp2
    go_ret
    exact ⟨rfl, Below.refl _ _⟩
  have CB := dHide (big_no a0 len0 cap0 hbig)
  have CD := dHide (drawStoreEra_any a0 len0 cap0 w hr)
  have CT := dHide fun W (hb : Below w.heap.size w W) => drawStoreTrim_any a0 len0 cap0 W (hr.below hb)
  have ba : ∀ (w : World) o, Below w.heap.size w (w.alloc o) := fun w o => (Below.refl _ _).alloc (Nat.le_refl _) o
  clear hbig hr
  go_enter Try.func4, Try.ntmps4
  go_wp2_with fail
  refine (dUnhide CB _).mono ?_
  rintro e w1 ⟨rfl, rfl⟩
  clear CB
  go_wp2_with fail
  refine (dUnhide CD).mono ?_
  rintro e w1 ⟨⟨u, x, hx0, hx5, rfl, s, O1, hf, hkl, hll⟩, B1⟩
  obtain ⟨ka, kc, la, lc, rfl⟩ := O1.shape
  clear CD
  have bA := ba w1 (.cells #[.slice ka s.kept.length kc, .slice la s.late.length lc, .int .i64 s.lock] 26)
  have X2 := Bx.new w1 [.slice ka s.kept.length kc, .slice la s.late.length lc, .int .i64 s.lock] 26
  have O2 := O1.below bA
  have B2 := belowThen B1 bA
  clear O1 B1 bA
  go_wp2_with fail
  generalize hbx : w1.heap.size = bx at *
  generalize w1.alloc (.cells #[.slice ka s.kept.length kc, .slice la s.late.length lc, .int .i64 s.lock] 26) = w2 at *
  clear hbx
  have C1 := dHide (implEra_any _ s x w2 O2.rs hf)
  have CS := dHide fun W (hb : Below w2.heap.size w2 W) => specEra_any _ s x W (O2.below hb).rs hf
  have CG := dHide fun W (hb : Below w2.heap.size w2 W) y => implGet_any _ s y W (O2.below hb).rs hf
  obtain ⟨es, hes, EF, EA, hel⟩ : ∃ es, eraM s x = es ∧ Hid (∀ i (h : i < es.length), getM s es[i].pl = some es[i] ∧ isPl es[i].pl ∧ es[i].pl / 4294967296 = x) ∧ Hid (∀ i (h : i + 1 < es.length), es[i].pl < es[i + 1].pl) ∧ es.length ≤ 300 := ⟨_, rfl, fun i h => era_fact h, fun i h => era_asc h, Nat.le_trans (era_len s x) hkl⟩
  rw [hes] at C1
  simp only [hes] at CS
  clear hes
  refine (dUnhide C1).mono ?_
  rintro e w3 ⟨⟨u3, rfl, O3⟩, b3⟩
  obtain ⟨ea, ec, rfl⟩ : ∃ ea ec, u3 = .slice ea es.length ec := by
    obtain ⟨-, a, cap, e, -, -⟩ := ApR.own elemE O3
    exact ⟨a, cap, e⟩
  have X3 := X2.below b3
  have R3 := (ApR.own elemE O3).rw
  have B3 := belowThen B2 b3
  have y0 := X3 0 _ rfl
  have y1 := X3 1 _ rfl
  have y2 := X3 2 _ rfl
  clear C1 X2 O3 B2 O2
  go_wp2_with fail
  refine (dUnhide CS w3 b3).mono ?_
  rintro e w4 ⟨⟨u4, rfl, O4⟩, b4⟩
  have R4 := (ApR.own elemE O4).rw
  have CQ := dHide (sameEntries_yes _ u4 es w4 (R3.below b4) R4)
  have b34 := belowThen b3 b4
  have X4 := X3.below b4
  have R4 := R3.below b4
  have B4 := belowThen B3 b4
  clear CS O4 R3 X3 B3 b3 b4 y0 y1 y2
  go_wp2_with fail
  refine (dUnhide CQ).mono ?_
  rintro e w5 ⟨rfl, b5⟩
  have b35 := belowThen b34 b5
  have X5 := X4.below b5
  have R5 := R4.below b5
  have B5 := belowThen B4 b5
  clear CQ b34 b5 X4 R4 B4
  go_wp2
  go_loopw [6] (fun xv wr => ∃ k : Nat, xv = .int .i64 (k : Int) ∧ k ≤ es.length ∧ Below w5.heap.size w5 wr) (fun xv _ => es.length - (intOf xv).toNat)
  case atStart => exact ⟨0, rfl, Nat.zero_le _, Below.refl _ _⟩
  case round =>
    obtain ⟨k, rfl, hkn, hb⟩ := hrel
    by_cases hlt : (k : Int) < (es.length : Int)
    · have hk : k < es.length := by omega
      obtain ⟨eb, eo, rfl, hc⟩ := (R5.below hb).ent hk
      obtain ⟨hg, hp, hd⟩ := dUnhide EF k hk
      have X6 := X5.below hb
      have EA1 := hc k hk
      have CGk := dHide fun W (h : Below wr.heap.size wr W) => dUnhide CG W (belowThen (belowThen b35 hb) h) es[k].pl
      rw [hg] at CGk
      have HV0 : Hid (0 < k → ∃ y, wr.cell? ⟨eb, eo + (k - 1) * 4, none⟩ = some (.int .i64 y) ∧ y < es[k].pl) := fun h0 => by
        have h1 := hc (k - 1) (by omega)
        have h2 := dUnhide EA (k - 1) (by omega)
        refine ⟨es[k - 1].pl, h1.1, ?_⟩
        have h3 : es[k - 1 + 1] = es[k] := by congr 1; omega
        rw [h3] at h2
        exact h2
      have CE := dHide fun W => implEpoch_yes es[k].pl hp W
      rw [hd] at CE
      clear hc hg hp hd
      generalize es[k] = e at *
      obtain ⟨P, V, H, D⟩ := e
      unfold findT Ent.val at CGk
      simp only at CGk CE HV0
      obtain ⟨c0, c1, c2, c3⟩ := EA1
      simp only at c0 c1 c2 c3
      obtain ⟨y0, y1, y2⟩ : (wr.cell? ⟨bx, 0, none⟩ = some (.slice ka s.kept.length kc)) ∧ (wr.cell? ⟨bx, 1, none⟩ = some (.slice la s.late.length lc)) ∧ (wr.cell? ⟨bx, 2, none⟩ = some (.int .i64 s.lock)) := ⟨X6 0 _ rfl, X6 1 _ rfl, X6 2 _ rfl⟩
      have HK : Hid (∀ W, Below wr.heap.size wr W → (W.cell? ⟨bx, 0, none⟩ = some (.slice ka s.kept.length kc)) ∧ (W.cell? ⟨bx, 1, none⟩ = some (.slice la s.late.length lc)) ∧ (W.cell? ⟨bx, 2, none⟩ = some (.int .i64 s.lock)) ∧ W.cell? ⟨eb, eo + k * 4, none⟩ = some (.int .i64 P) ∧ W.cell? ⟨eb, eo + k * 4 + 1, none⟩ = some (.int .i64 V) ∧ W.cell? ⟨eb, eo + k * 4 + 2, none⟩ = some (.bool H) ∧ W.cell? ⟨eb, eo + k * 4 + 3, none⟩ = some (.string D)) := fun W h =>
        ⟨(h.cell (p := ⟨bx, 0, none⟩) (dCell_lt y0)).trans y0, (h.cell (p := ⟨bx, 1, none⟩) (dCell_lt y1)).trans y1, (h.cell (p := ⟨bx, 2, none⟩) (dCell_lt y2)).trans y2, (h.cell (p := ⟨eb, eo + k * 4, none⟩) (dCell_lt c0)).trans c0, (h.cell (p := ⟨eb, eo + k * 4 + 1, none⟩) (dCell_lt c1)).trans c1, (h.cell (p := ⟨eb, eo + k * 4 + 2, none⟩) (dCell_lt c2)).trans c2, (h.cell (p := ⟨eb, eo + k * 4 + 3, none⟩) (dCell_lt c3)).trans c3⟩
      have HS : Hid (∀ W, Below wr.heap.size wr W → (W.cell? ⟨bx, 0, none⟩ = some (.slice ka s.kept.length kc)) ∧ (W.cell? ⟨bx, 1, none⟩ = some (.slice la s.late.length lc)) ∧ (W.cell? ⟨bx, 2, none⟩ = some (.int .i64 s.lock)) ∧ W.cell? ⟨eb, eo + k * 4, none⟩ = some (.int .i64 P)) := fun W h => ⟨(dUnhide HK W h).1, (dUnhide HK W h).2.1, (dUnhide HK W h).2.2.1, (dUnhide HK W h).2.2.2.1⟩
      have t1 : (0 : Int) ≤ (k : Int) := by omega
      have hbr := Below.refl wr.heap.size wr
      clear X6 c1 c2 c3
      go_wp2_with fail
      go_cut [7, 8] (fun xv ov wx => ∃ bv : Nat, xv = .pointer (some ⟨bv, 0, none⟩) ∧ ov = .bool true ∧ Bx wx bv [.int .i64 P, .int .i64 V, .bool H, .string D] ∧ Below wr.heap.size wr wx)
      case first =>
        go_region_held3 (fun W => W.cell? ⟨bx, 0, none⟩ = some (.slice ka s.kept.length kc) ∧ W.cell? ⟨bx, 1, none⟩ = some (.slice la s.late.length lc) ∧ W.cell? ⟨bx, 2, none⟩ = some (.int .i64 s.lock) ∧ W.cell? ⟨eb, eo + k * 4, none⟩ = some (.int .i64 P)) (first | exact dUnhide HS _ (below_four hb7 zz.1 _ _ _ _) | go_keep)
          (first
            | (go_at_call 26; refine (dUnhide CGk _ (by first | exact hbr.drew | exact hbr.drew.alloc hbr.size _)).mono ?_; rintro r w7 ⟨rfl, b7⟩; have hb7 := belowThen (by first | exact hbr.drew | exact hbr.drew.alloc hbr.size _) b7; obtain ⟨y0, y1, y2, c0, -, -, -⟩ := dUnhide HK w7 hb7; (first | have zz := made4D hbr.size b7 | have zz : BxZ w7 wr.heap.size wr.heap.size [_, _, _, _] := made4 hbr.size b7 | skip); (try obtain ⟨z0, f0⟩ := zz.2 0 _ rfl); (try obtain ⟨z1, f1⟩ := zz.2 1 _ rfl); (try obtain ⟨z2, f2⟩ := zz.2 2 _ rfl); (try obtain ⟨z3, f3⟩ := zz.2 3 _ rfl)))
        all_goals
          go_wp2_with fail
          go_meet
          case rel => first | exact ⟨_, rfl, rfl, ((((zz.put 0 _).put 1 _).put 2 _).put 3 _).bx, below_four hb7 zz.1 _ _ _ _⟩ | exact ⟨_, rfl, rfl, Bx.new w7 [.int .i64 P, .int .i64 V, .bool H, .string D] _, hb7.alloc hb7.size _⟩
      case rest =>
        obtain ⟨bv, rfl, rfl, XV, bc⟩ := hcut
        generalize wc = w8 at *
        have hb8 := belowThen hb bc
        have HN : Hid (∀ W, Below w8.heap.size w8 W → W.cell? ⟨bv, 0, none⟩ = some (.int .i64 P) ∧ W.cell? ⟨bv, 1, none⟩ = some (.int .i64 V) ∧ W.cell? ⟨bv, 2, none⟩ = some (.bool H) ∧ W.cell? ⟨bv, 3, none⟩ = some (.string D) ∧ W.cell? ⟨eb, eo + k * 4, none⟩ = some (.int .i64 P) ∧ W.cell? ⟨eb, eo + k * 4 + 1, none⟩ = some (.int .i64 V) ∧ W.cell? ⟨eb, eo + k * 4 + 2, none⟩ = some (.bool H) ∧ W.cell? ⟨eb, eo + k * 4 + 3, none⟩ = some (.string D)) := fun W h => ⟨XV.below h 0 _ rfl, XV.below h 1 _ rfl, XV.below h 2 _ rfl, XV.below h 3 _ rfl, (dUnhide HK W (belowThen bc h)).2.2.2⟩
        have HV8 : Hid (0 < k → ∃ y, (∀ W, Below w8.heap.size w8 W → W.cell? ⟨eb, eo + (k - 1) * 4, none⟩ = some (.int .i64 y)) ∧ y < P) := fun h0 => by
          obtain ⟨y, h1, h2⟩ := dUnhide HV0 h0
          exact ⟨y, fun W h => ((belowThen bc h).cell (p := ⟨eb, eo + (k - 1) * 4, none⟩) (dCell_lt h1)).trans h1, h2⟩
        clear HV0 HK HS CGk c0 y0 y1 y2 XV bc hbr
        obtain ⟨p0, p1, p2, p3, q0, q1, q2, q3⟩ := dUnhide HN w8 (Below.refl _ _)
        have hbr := Below.refl w8.heap.size w8
        by_cases h0 : 0 < k
        · obtain ⟨y, HY, hy⟩ := dUnhide HV8 h0
          have t5 : (0 : Int) < (k : Int) := by omega
          have hdk : decide (0 < k) = true := decide_eq_true h0
          have t6 : ¬ (P ≤ y) := by omega
          generalize hj : k - 1 = j at *
          have t3 : IntKind.i64.wrap ((k : Int) - 1) = (j : Int) := by rw [IntKind.wrap_i64]; omega
          have t7 : (0 : Int) ≤ (j : Int) := by omega
          have t8 : (j : Int) < (es.length : Int) := by omega
          have HYh := dHide HY
          have v0 := HY w8 hbr
          clear HV8 HY hj
          go_wp2_with fail
          go_region_held3 (fun W => W.cell? ⟨bv, 0, none⟩ = some (.int .i64 P) ∧ W.cell? ⟨bv, 1, none⟩ = some (.int .i64 V) ∧ W.cell? ⟨bv, 2, none⟩ = some (.bool H) ∧ W.cell? ⟨bv, 3, none⟩ = some (.string D) ∧ W.cell? ⟨eb, eo + k * 4, none⟩ = some (.int .i64 P) ∧ W.cell? ⟨eb, eo + k * 4 + 1, none⟩ = some (.int .i64 V) ∧ W.cell? ⟨eb, eo + k * 4 + 2, none⟩ = some (.bool H) ∧ W.cell? ⟨eb, eo + k * 4 + 3, none⟩ = some (.string D) ∧ W.cell? ⟨eb, eo + j * 4, none⟩ = some (.int .i64 y)) (first | exact ⟨p0, p1, p2, p3, q0, q1, q2, q3, v0⟩ | go_keep)
            (first
              | (go_at_call 27; refine (dUnhide CE _).mono ?_; rintro r w9 ⟨rfl, b9⟩; have hb9 := belowThen hbr.drew b9; obtain ⟨p0, p1, p2, p3, q0, q1, q2, q3⟩ := dUnhide HN w9 hb9; have v0 := dUnhide HYh w9 hb9))
          all_goals
            go_wp2
            go_roundw
            case rel => exact ⟨k + 1, by go_num, by omega, belowThen hb8 hb9⟩
            case measure => simp [intOf]; omega
        · have hdk : decide (0 < k) = false := decide_eq_false h0
          have t5 : ¬ (0 : Int) < (k : Int) := by omega
          clear HV8
          go_wp2_with fail
          refine wp_region_noPanic ?_
          refine wp_region_held_drew (S := fun W => W.cell? ⟨bv, 0, none⟩ = some (.int .i64 P) ∧ W.cell? ⟨bv, 1, none⟩ = some (.int .i64 V) ∧ W.cell? ⟨bv, 2, none⟩ = some (.bool H) ∧ W.cell? ⟨bv, 3, none⟩ = some (.string D) ∧ W.cell? ⟨eb, eo + k * 4, none⟩ = some (.int .i64 P) ∧ W.cell? ⟨eb, eo + k * 4 + 1, none⟩ = some (.int .i64 V) ∧ W.cell? ⟨eb, eo + k * 4 + 2, none⟩ = some (.bool H) ∧ W.cell? ⟨eb, eo + k * 4 + 3, none⟩ = some (.string D)) (by kernel_rfl) ?_ (fun hHeld => ?_)
          · go_keep
          refine wpAnyH_take (i := 0) (oi := { dst := some 50, op := Op.move (Operand.tmp 8), type := 4, pos := "laws.go:495", after := #[], guard := none }) (v := ?_) rfl (by kernel_rfl) (by kernel_rfl) (by kernel_rfl) (fun _ _ _ h => h) (Or.inl ⟨by rfl, ?_⟩) (by assumption) ?_
          rotate_left 1
          · intro w hSw
            (try dsimp only at hSw)
            first | (go_simp; done) | (go_simp; with_reducible rfl)
          try simp only [Act.put, List.setIfInBounds_toArray, List.set_cons_zero, List.set_cons_succ]
          refine wpAnyH_take (i := 1) (oi := { dst := some 51, op := Op.unOp UnOp.not 4 (Operand.tmp 50), type := 4, pos := "laws.go:495", after := #[{ on := 0, ground := Ground.data }], guard := none }) (v := ?_) rfl (by kernel_rfl) (by kernel_rfl) (by kernel_rfl) (fun _ _ _ h => h) (Or.inl ⟨by rfl, ?_⟩) (by assumption) ?_
          rotate_left 1
          · intro w hSw
            (try dsimp only at hSw)
            first | (go_simp; done) | (go_simp; with_reducible rfl)
          try simp only [Act.put, List.setIfInBounds_toArray, List.set_cons_zero, List.set_cons_succ]
          refine wpAnyH_take (i := 2) (oi := { dst := some 52, op := Op.move (Operand.tmp 51), type := 4, pos := "laws.go:495", after := #[{ on := 1, ground := Ground.data }], guard := none }) (v := ?_) rfl (by kernel_rfl) (by kernel_rfl) (by kernel_rfl) (fun _ _ _ h => h) (Or.inl ⟨by rfl, ?_⟩) (by assumption) ?_
          rotate_left 1
          · intro w hSw
            (try dsimp only at hSw)
            first | (go_simp; done) | (go_simp; with_reducible rfl)
          try simp only [Act.put, List.setIfInBounds_toArray, List.set_cons_zero, List.set_cons_succ]
          refine wpAnyH_take (i := 3) (oi := { dst := some 53, op := Op.load 35 (Operand.tmp 7), type := 35, pos := "laws.go:495", after := #[{ on := 2, ground := Ground.guard }], guard := some (2, false) }) (v := ?_) rfl (by kernel_rfl) (by kernel_rfl) (by kernel_rfl) (fun _ _ _ h => h) (Or.inl ⟨by rfl, ?_⟩) (by assumption) ?_
          rotate_left 1
          · intro w hSw
            (try dsimp only at hSw)
            first | (go_simp; done) | (go_simp; with_reducible rfl)
          try simp only [Act.put, List.setIfInBounds_toArray, List.set_cons_zero, List.set_cons_succ]
          refine wpAnyH_take (i := 4) (oi := { dst := some 54, op := Op.move (Operand.tmp 5), type := 24, pos := "laws.go:495", after := #[{ on := 2, ground := Ground.guard }], guard := some (2, false) }) (v := ?_) rfl (by kernel_rfl) (by kernel_rfl) (by kernel_rfl) (fun _ _ _ h => h) (Or.inl ⟨by rfl, ?_⟩) (by assumption) ?_
          rotate_left 1
          · intro w hSw
            (try dsimp only at hSw)
            first | (go_simp; done) | (go_simp; with_reducible rfl)
          try simp only [Act.put, List.setIfInBounds_toArray, List.set_cons_zero, List.set_cons_succ]
          refine wpAnyH_take (i := 5) (oi := { dst := some 55, op := Op.move (Operand.tmp 6), type := 3, pos := "laws.go:495", after := #[{ on := 2, ground := Ground.guard }], guard := some (2, false) }) (v := ?_) rfl (by kernel_rfl) (by kernel_rfl) (by kernel_rfl) (fun _ _ _ h => h) (Or.inl ⟨by rfl, ?_⟩) (by assumption) ?_
          rotate_left 1
          · intro w hSw
            (try dsimp only at hSw)
            first | (go_simp; done) | (go_simp; with_reducible rfl)
          try simp only [Act.put, List.setIfInBounds_toArray, List.set_cons_zero, List.set_cons_succ]
          refine wpAnyH_take (i := 6) (oi := { dst := some 56, op := Op.indexAddr 24 (Operand.tmp 54) (Operand.tmp 55), type := 0, pos := "laws.go:495", after := #[{ on := 4, ground := Ground.data }, { on := 5, ground := Ground.data }, { on := 2, ground := Ground.guard }], guard := some (2, false) }) (v := ?_) rfl (by kernel_rfl) (by kernel_rfl) (by kernel_rfl) (fun _ _ _ h => h) (Or.inl ⟨by rfl, ?_⟩) (by assumption) ?_
          rotate_left 1
          · intro w hSw
            (try dsimp only at hSw)
            first | (go_simp; done) | (go_simp; with_reducible rfl)
          try simp only [Act.put, List.setIfInBounds_toArray, List.set_cons_zero, List.set_cons_succ]
          refine wpAnyH_take (i := 7) (oi := { dst := some 57, op := Op.load 35 (Operand.tmp 56), type := 35, pos := "laws.go:495", after := #[{ on := 6, ground := Ground.data }, { on := 2, ground := Ground.guard }], guard := some (2, false) }) (v := ?_) rfl (by kernel_rfl) (by kernel_rfl) (by kernel_rfl) (fun _ _ _ h => h) (Or.inl ⟨by rfl, ?_⟩) (by assumption) ?_
          rotate_left 1
          · intro w hSw
            (try dsimp only at hSw)
            first | (go_simp; done) | (go_simp; with_reducible rfl)
          try simp only [Act.put, List.setIfInBounds_toArray, List.set_cons_zero, List.set_cons_succ]
          refine wpAnyH_take (i := 8) (oi := { dst := some 58, op := Op.binOp BinOp.neq 35 (Operand.tmp 53) (Operand.tmp 57) 35, type := 4, pos := "laws.go:495", after := #[{ on := 3, ground := Ground.data }, { on := 7, ground := Ground.data }, { on := 2, ground := Ground.guard }], guard := some (2, false) }) (v := ?_) rfl (by kernel_rfl) (by kernel_rfl) (by kernel_rfl) (fun _ _ _ h => h) (Or.inl ⟨by rfl, ?_⟩) (by assumption) ?_
          rotate_left 1
          · intro w hSw
            (try dsimp only at hSw)
            first | (go_simp; done) | (go_simp; with_reducible rfl)
          try simp only [Act.put, List.setIfInBounds_toArray, List.set_cons_zero, List.set_cons_succ]
          refine wpAnyH_take (i := 9) (oi := { dst := some 59, op := Op.pick (Operand.tmp 52) (Operand.const (Value.bool true)) (Operand.tmp 58), type := 4, pos := "laws.go:495", after := #[{ on := 2, ground := Ground.data }, { on := 8, ground := Ground.data }], guard := none }) (v := ?_) rfl (by kernel_rfl) (by kernel_rfl) (by kernel_rfl) (fun _ _ _ h => h) (Or.inl ⟨by rfl, ?_⟩) (by assumption) ?_
          rotate_left 1
          · intro w hSw
            (try dsimp only at hSw)
            first | (go_simp; done) | (go_simp; with_reducible rfl)
          try simp only [Act.put, List.setIfInBounds_toArray, List.set_cons_zero, List.set_cons_succ]
          refine wpAnyH_take (i := 10) (oi := { dst := some 60, op := Op.move (Operand.tmp 59), type := 4, pos := "laws.go:495", after := #[{ on := 9, ground := Ground.data }, { on := 2, ground := Ground.chain }], guard := none }) (v := ?_) rfl (by kernel_rfl) (by kernel_rfl) (by kernel_rfl) (fun _ _ _ h => h) (Or.inl ⟨by rfl, ?_⟩) (by assumption) ?_
          rotate_left 1
          · intro w hSw
            (try dsimp only at hSw)
            first | (go_simp; done) | (go_simp; with_reducible rfl)
          try simp only [Act.put, List.setIfInBounds_toArray, List.set_cons_zero, List.set_cons_succ]
          refine wpAnyH_take (i := 11) (oi := { dst := some 61, op := Op.move (Operand.tmp 5), type := 24, pos := "laws.go:495", after := #[{ on := 10, ground := Ground.guard }], guard := some (10, false) }) (v := ?_) rfl (by kernel_rfl) (by kernel_rfl) (by kernel_rfl) (fun _ _ _ h => h) (Or.inl ⟨by rfl, ?_⟩) (by assumption) ?_
          rotate_left 1
          · intro w hSw
            (try dsimp only at hSw)
            first | (go_simp; done) | (go_simp; with_reducible rfl)
          try simp only [Act.put, List.setIfInBounds_toArray, List.set_cons_zero, List.set_cons_succ]
          refine wpAnyH_take (i := 12) (oi := { dst := some 62, op := Op.move (Operand.tmp 6), type := 3, pos := "laws.go:495", after := #[{ on := 10, ground := Ground.guard }], guard := some (10, false) }) (v := ?_) rfl (by kernel_rfl) (by kernel_rfl) (by kernel_rfl) (fun _ _ _ h => h) (Or.inl ⟨by rfl, ?_⟩) (by assumption) ?_
          rotate_left 1
          · intro w hSw
            (try dsimp only at hSw)
            first | (go_simp; done) | (go_simp; with_reducible rfl)
          try simp only [Act.put, List.setIfInBounds_toArray, List.set_cons_zero, List.set_cons_succ]
          refine wpAnyH_take (i := 13) (oi := { dst := some 63, op := Op.indexAddr 24 (Operand.tmp 61) (Operand.tmp 62), type := 0, pos := "laws.go:495", after := #[{ on := 11, ground := Ground.data }, { on := 12, ground := Ground.data }, { on := 10, ground := Ground.guard }], guard := some (10, false) }) (v := ?_) rfl (by kernel_rfl) (by kernel_rfl) (by kernel_rfl) (fun _ _ _ h => h) (Or.inl ⟨by rfl, ?_⟩) (by assumption) ?_
          rotate_left 1
          · intro w hSw
            (try dsimp only at hSw)
            first | (go_simp; done) | (go_simp; with_reducible rfl)
          try simp only [Act.put, List.setIfInBounds_toArray, List.set_cons_zero, List.set_cons_succ]
          refine wpAnyH_take (i := 14) (oi := { dst := some 64, op := Op.fieldAddr 35 (Operand.tmp 63) 0, type := 0, pos := "laws.go:495", after := #[{ on := 13, ground := Ground.data }, { on := 10, ground := Ground.guard }], guard := some (10, false) }) (v := ?_) rfl (by kernel_rfl) (by kernel_rfl) (by kernel_rfl) (fun _ _ _ h => h) (Or.inl ⟨by rfl, ?_⟩) (by assumption) ?_
          rotate_left 1
          · intro w hSw
            (try dsimp only at hSw)
            first | (go_simp; done) | (go_simp; with_reducible rfl)
          try simp only [Act.put, List.setIfInBounds_toArray, List.set_cons_zero, List.set_cons_succ]
          refine wpAnyH_take (i := 15) (oi := { dst := some 65, op := Op.load 3 (Operand.tmp 64), type := 3, pos := "laws.go:495", after := #[{ on := 14, ground := Ground.data }, { on := 10, ground := Ground.guard }], guard := some (10, false) }) (v := ?_) rfl (by kernel_rfl) (by kernel_rfl) (by kernel_rfl) (fun _ _ _ h => h) (Or.inl ⟨by rfl, ?_⟩) (by assumption) ?_
          rotate_left 1
          · intro w hSw
            (try dsimp only at hSw)
            first | (go_simp; done) | (go_simp; with_reducible rfl)
          try simp only [Act.put, List.setIfInBounds_toArray, List.set_cons_zero, List.set_cons_succ]
          refine wpAnyH_take (i := 17) (oi := { dst := some 67, op := Op.move (Operand.tmp 4), type := 3, pos := "laws.go:495", after := #[{ on := 10, ground := Ground.guard }], guard := some (10, false) }) (v := ?_) rfl (by kernel_rfl) (by kernel_rfl) (by kernel_rfl) (fun _ _ _ h => h) (Or.inl ⟨by rfl, ?_⟩) (by assumption) ?_
          rotate_left 1
          · intro w hSw
            (try dsimp only at hSw)
            first | (go_simp; done) | (go_simp; with_reducible rfl)
          try simp only [Act.put, List.setIfInBounds_toArray, List.set_cons_zero, List.set_cons_succ]
          refine wpAnyH_ready (rs := [16]) (by kernel_rfl) (by simp) ?_
          refine AllReadyH.cons (o := { dst := some 66, op := Op.call { callee := Callee.value (Operand.func 27), args := #[Operand.tmp 65], argTypes := #[3] }, type := 3, pos := "laws.go:495", after := #[{ on := 15, ground := Ground.data }, { on := 10, ground := Ground.chain }, { on := 10, ground := Ground.guard }], guard := some (10, false) }) rfl (fun K hK => ?_) AllReadyH.nil
          go_simp
          refine (dUnhide CE _).mono ?_
          rintro r w9 ⟨rfl, b9⟩
          have hb9 := belowThen hbr.drew b9
          obtain ⟨p0, p1, p2, p3, q0, q1, q2, q3⟩ := dUnhide HN w9 hb9
          (try go_wp2_with fail)
          refine hK.out _ _ ?_ (fun hHeld => ?_)
          · go_keep
          clear hK K
          try simp only [Act.put, List.setIfInBounds_toArray, List.set_cons_zero, List.set_cons_succ]
          refine wpAnyH_take (i := 18) (oi := { dst := some 68, op := Op.binOp BinOp.neq 3 (Operand.tmp 66) (Operand.tmp 67) 3, type := 4, pos := "laws.go:495", after := #[{ on := 16, ground := Ground.data }, { on := 17, ground := Ground.data }, { on := 10, ground := Ground.guard }], guard := some (10, false) }) (v := ?_) rfl (by kernel_rfl) (by kernel_rfl) (by kernel_rfl) (fun _ _ _ h => h) (Or.inl ⟨by rfl, ?_⟩) (by assumption) ?_
          rotate_left 1
          · intro w hSw
            (try dsimp only at hSw)
            first | (go_simp; done) | (go_simp; with_reducible rfl)
          try simp only [Act.put, List.setIfInBounds_toArray, List.set_cons_zero, List.set_cons_succ]
          refine wpAnyH_take (i := 19) (oi := { dst := some 69, op := Op.pick (Operand.tmp 60) (Operand.const (Value.bool true)) (Operand.tmp 68), type := 4, pos := "laws.go:495", after := #[{ on := 10, ground := Ground.data }, { on := 18, ground := Ground.data }], guard := none }) (v := ?_) rfl (by kernel_rfl) (by kernel_rfl) (by kernel_rfl) (fun _ _ _ h => h) (Or.inl ⟨by rfl, ?_⟩) (by assumption) ?_
          rotate_left 1
          · intro w hSw
            (try dsimp only at hSw)
            first | (go_simp; done) | (go_simp; with_reducible rfl)
          try simp only [Act.put, List.setIfInBounds_toArray, List.set_cons_zero, List.set_cons_succ]
          refine wpAnyH_take (i := 20) (oi := { dst := some 70, op := Op.move (Operand.tmp 69), type := 4, pos := "laws.go:495", after := #[{ on := 19, ground := Ground.data }, { on := 16, ground := Ground.chain }], guard := none }) (v := ?_) rfl (by kernel_rfl) (by kernel_rfl) (by kernel_rfl) (fun _ _ _ h => h) (Or.inl ⟨by rfl, ?_⟩) (by assumption) ?_
          rotate_left 1
          · intro w hSw
            (try dsimp only at hSw)
            first | (go_simp; done) | (go_simp; with_reducible rfl)
          try simp only [Act.put, List.setIfInBounds_toArray, List.set_cons_zero, List.set_cons_succ]
          refine wpAnyH_take (i := 21) (oi := { dst := some 71, op := Op.move (Operand.tmp 6), type := 3, pos := "laws.go:495", after := #[{ on := 20, ground := Ground.guard }], guard := some (20, false) }) (v := ?_) rfl (by kernel_rfl) (by kernel_rfl) (by kernel_rfl) (fun _ _ _ h => h) (Or.inl ⟨by rfl, ?_⟩) (by assumption) ?_
          rotate_left 1
          · intro w hSw
            (try dsimp only at hSw)
            first | (go_simp; done) | (go_simp; with_reducible rfl)
          try simp only [Act.put, List.setIfInBounds_toArray, List.set_cons_zero, List.set_cons_succ]
          refine wpAnyH_take (i := 22) (oi := { dst := some 72, op := Op.binOp BinOp.gtr 3 (Operand.tmp 71) (Operand.const (Value.int IntKind.i64 0)) 3, type := 4, pos := "laws.go:495", after := #[{ on := 21, ground := Ground.data }, { on := 20, ground := Ground.guard }], guard := some (20, false) }) (v := ?_) rfl (by kernel_rfl) (by kernel_rfl) (by kernel_rfl) (fun _ _ _ h => h) (Or.inl ⟨by rfl, ?_⟩) (by assumption) ?_
          rotate_left 1
          · intro w hSw
            (try dsimp only at hSw)
            first | (go_simp; done) | (go_simp; with_reducible rfl)
          try simp only [Act.put, List.setIfInBounds_toArray, List.set_cons_zero, List.set_cons_succ]
          refine wpAnyH_take (i := 23) (oi := { dst := some 73, op := Op.move (Operand.tmp 72), type := 4, pos := "laws.go:495", after := #[{ on := 22, ground := Ground.data }, { on := 20, ground := Ground.chain }, { on := 20, ground := Ground.guard }], guard := some (20, false) }) (v := ?_) rfl (by kernel_rfl) (by kernel_rfl) (by kernel_rfl) (fun _ _ _ h => h) (Or.inl ⟨by rfl, ?_⟩) (by assumption) ?_
          rotate_left 1
          · intro w hSw
            (try dsimp only at hSw)
            first | (go_simp; done) | (go_simp; with_reducible rfl)
          try simp only [Act.put, List.setIfInBounds_toArray, List.set_cons_zero, List.set_cons_succ]
          refine wpAnyH_take (i := 24) (oi := { dst := some 74, op := Op.move (Operand.tmp 5), type := 24, pos := "laws.go:495", after := #[{ on := 23, ground := Ground.guard }], guard := some (23, true) }) (v := undef) rfl (by kernel_rfl) (by kernel_rfl) (by kernel_rfl) (fun _ _ _ h => h) (Or.inr ⟨by rfl, rfl⟩) (by assumption) ?_
          try simp only [Act.put, List.setIfInBounds_toArray, List.set_cons_zero, List.set_cons_succ]
          refine wpAnyH_take (i := 25) (oi := { dst := some 75, op := Op.move (Operand.tmp 6), type := 3, pos := "laws.go:495", after := #[{ on := 23, ground := Ground.guard }], guard := some (23, true) }) (v := undef) rfl (by kernel_rfl) (by kernel_rfl) (by kernel_rfl) (fun _ _ _ h => h) (Or.inr ⟨by rfl, rfl⟩) (by assumption) ?_
          try simp only [Act.put, List.setIfInBounds_toArray, List.set_cons_zero, List.set_cons_succ]
          refine wpAnyH_take (i := 26) (oi := { dst := some 76, op := Op.binOp BinOp.sub 3 (Operand.tmp 75) (Operand.const (Value.int IntKind.i64 1)) 3, type := 3, pos := "laws.go:495", after := #[{ on := 25, ground := Ground.data }, { on := 23, ground := Ground.guard }], guard := some (23, true) }) (v := undef) rfl (by kernel_rfl) (by kernel_rfl) (by kernel_rfl) (fun _ _ _ h => h) (Or.inr ⟨by rfl, rfl⟩) (by assumption) ?_
          try simp only [Act.put, List.setIfInBounds_toArray, List.set_cons_zero, List.set_cons_succ]
          refine wpAnyH_take (i := 27) (oi := { dst := some 77, op := Op.indexAddr 24 (Operand.tmp 74) (Operand.tmp 76), type := 0, pos := "laws.go:495", after := #[{ on := 24, ground := Ground.data }, { on := 26, ground := Ground.data }, { on := 23, ground := Ground.guard }], guard := some (23, true) }) (v := undef) rfl (by kernel_rfl) (by kernel_rfl) (by kernel_rfl) (fun _ _ _ h => h) (Or.inr ⟨by rfl, rfl⟩) (by assumption) ?_
          try simp only [Act.put, List.setIfInBounds_toArray, List.set_cons_zero, List.set_cons_succ]
          refine wpAnyH_take (i := 28) (oi := { dst := some 78, op := Op.fieldAddr 35 (Operand.tmp 77) 0, type := 0, pos := "laws.go:495", after := #[{ on := 27, ground := Ground.data }, { on := 23, ground := Ground.guard }], guard := some (23, true) }) (v := undef) rfl (by kernel_rfl) (by kernel_rfl) (by kernel_rfl) (fun _ _ _ h => h) (Or.inr ⟨by rfl, rfl⟩) (by assumption) ?_
          try simp only [Act.put, List.setIfInBounds_toArray, List.set_cons_zero, List.set_cons_succ]
          refine wpAnyH_take (i := 29) (oi := { dst := some 79, op := Op.load 3 (Operand.tmp 78), type := 3, pos := "laws.go:495", after := #[{ on := 28, ground := Ground.data }, { on := 23, ground := Ground.guard }], guard := some (23, true) }) (v := undef) rfl (by kernel_rfl) (by kernel_rfl) (by kernel_rfl) (fun _ _ _ h => h) (Or.inr ⟨by rfl, rfl⟩) (by assumption) ?_
          try simp only [Act.put, List.setIfInBounds_toArray, List.set_cons_zero, List.set_cons_succ]
          refine wpAnyH_take (i := 30) (oi := { dst := some 80, op := Op.move (Operand.tmp 5), type := 24, pos := "laws.go:495", after := #[{ on := 23, ground := Ground.guard }], guard := some (23, true) }) (v := undef) rfl (by kernel_rfl) (by kernel_rfl) (by kernel_rfl) (fun _ _ _ h => h) (Or.inr ⟨by rfl, rfl⟩) (by assumption) ?_
          try simp only [Act.put, List.setIfInBounds_toArray, List.set_cons_zero, List.set_cons_succ]
          refine wpAnyH_take (i := 31) (oi := { dst := some 81, op := Op.move (Operand.tmp 6), type := 3, pos := "laws.go:495", after := #[{ on := 23, ground := Ground.guard }], guard := some (23, true) }) (v := undef) rfl (by kernel_rfl) (by kernel_rfl) (by kernel_rfl) (fun _ _ _ h => h) (Or.inr ⟨by rfl, rfl⟩) (by assumption) ?_
          try simp only [Act.put, List.setIfInBounds_toArray, List.set_cons_zero, List.set_cons_succ]
          refine wpAnyH_take (i := 32) (oi := { dst := some 82, op := Op.indexAddr 24 (Operand.tmp 80) (Operand.tmp 81), type := 0, pos := "laws.go:495", after := #[{ on := 30, ground := Ground.data }, { on := 31, ground := Ground.data }, { on := 23, ground := Ground.guard }], guard := some (23, true) }) (v := undef) rfl (by kernel_rfl) (by kernel_rfl) (by kernel_rfl) (fun _ _ _ h => h) (Or.inr ⟨by rfl, rfl⟩) (by assumption) ?_
          try simp only [Act.put, List.setIfInBounds_toArray, List.set_cons_zero, List.set_cons_succ]
          refine wpAnyH_take (i := 33) (oi := { dst := some 83, op := Op.fieldAddr 35 (Operand.tmp 82) 0, type := 0, pos := "laws.go:495", after := #[{ on := 32, ground := Ground.data }, { on := 23, ground := Ground.guard }], guard := some (23, true) }) (v := undef) rfl (by kernel_rfl) (by kernel_rfl) (by kernel_rfl) (fun _ _ _ h => h) (Or.inr ⟨by rfl, rfl⟩) (by assumption) ?_
          try simp only [Act.put, List.setIfInBounds_toArray, List.set_cons_zero, List.set_cons_succ]
          refine wpAnyH_take (i := 34) (oi := { dst := some 84, op := Op.load 3 (Operand.tmp 83), type := 3, pos := "laws.go:495", after := #[{ on := 33, ground := Ground.data }, { on := 23, ground := Ground.guard }], guard := some (23, true) }) (v := undef) rfl (by kernel_rfl) (by kernel_rfl) (by kernel_rfl) (fun _ _ _ h => h) (Or.inr ⟨by rfl, rfl⟩) (by assumption) ?_
          try simp only [Act.put, List.setIfInBounds_toArray, List.set_cons_zero, List.set_cons_succ]
          refine wpAnyH_take (i := 35) (oi := { dst := some 85, op := Op.binOp BinOp.geq 3 (Operand.tmp 79) (Operand.tmp 84) 3, type := 4, pos := "laws.go:495", after := #[{ on := 29, ground := Ground.data }, { on := 34, ground := Ground.data }, { on := 23, ground := Ground.guard }], guard := some (23, true) }) (v := undef) rfl (by kernel_rfl) (by kernel_rfl) (by kernel_rfl) (fun _ _ _ h => h) (Or.inr ⟨by rfl, rfl⟩) (by assumption) ?_
          try simp only [Act.put, List.setIfInBounds_toArray, List.set_cons_zero, List.set_cons_succ]
          refine wpAnyH_take (i := 36) (oi := { dst := some 86, op := Op.pick (Operand.tmp 73) (Operand.tmp 85) (Operand.const (Value.bool false)), type := 4, pos := "laws.go:495", after := #[{ on := 23, ground := Ground.data }, { on := 35, ground := Ground.data }, { on := 20, ground := Ground.guard }], guard := some (20, false) }) (v := ?_) rfl (by kernel_rfl) (by kernel_rfl) (by kernel_rfl) (fun _ _ _ h => h) (Or.inl ⟨by rfl, ?_⟩) (by assumption) ?_
          rotate_left 1
          · intro w hSw
            (try dsimp only at hSw)
            first | (go_simp; done) | (go_simp; with_reducible rfl)
          try simp only [Act.put, List.setIfInBounds_toArray, List.set_cons_zero, List.set_cons_succ]
          refine wpAnyH_take (i := 37) (oi := { dst := some 87, op := Op.pick (Operand.tmp 70) (Operand.const (Value.bool true)) (Operand.tmp 86), type := 4, pos := "laws.go:495", after := #[{ on := 20, ground := Ground.data }, { on := 36, ground := Ground.data }], guard := none }) (v := ?_) rfl (by kernel_rfl) (by kernel_rfl) (by kernel_rfl) (fun _ _ _ h => h) (Or.inl ⟨by rfl, ?_⟩) (by assumption) ?_
          rotate_left 1
          · intro w hSw
            (try dsimp only at hSw)
            first | (go_simp; done) | (go_simp; with_reducible rfl)
          try simp only [Act.put, List.setIfInBounds_toArray, List.set_cons_zero, List.set_cons_succ]
          refine wpAnyH_done (by kernel_rfl) ?_ _
          refine NoPanic.normal ?_
          go_wp2
          go_roundw
          case rel => exact ⟨k + 1, by go_num, by omega, belowThen hb8 hb9⟩
          case measure => simp [intOf]; omega
    · have B6 := belowThen B5 hb
      clear X5 R5 CG EF EA b35 B5 hb
      go_wp2_with fail
      refine (dUnhide CT wr B6).mono ?_
      rintro e v1 ⟨⟨u, z, hz, rfl, t, O1, ht, htk, htl⟩, b1⟩
      obtain ⟨ta, tc, tla, tlc, rfl⟩ := O1.shape
      have bA := ba v1 (.cells #[.slice ta t.kept.length tc, .slice tla t.late.length tlc, .int .i64 t.lock] 26)
      have X2 := Bx.new v1 [.slice ta t.kept.length tc, .slice tla t.late.length tlc, .int .i64 t.lock] 26
      have O2 := O1.below bA
      have B2 := belowThen (belowThen B6 b1) bA
      clear O1 b1 B6 bA CT
      go_wp2_with fail
      generalize hbt : v1.heap.size = bt at *
      generalize v1.alloc (.cells #[.slice ta t.kept.length tc, .slice tla t.late.length tlc, .int .i64 t.lock] 26) = v2 at *
      clear hbt
      have TT : Hid (∀ m, trimM t z = (m, true) → stP m ∧ ∀ i (hi : i < t.kept.length), (getM m t.kept[i].pl).isSome = decide (z < t.kept[i].pl)) := fun m h => trim_true h
      have C1 := dHide (implTrim_any _ t z v2 O2.rs ht hz.1 hz.2)
      have CS := dHide fun W (hb : Below v2.heap.size v2 W) => specTrim_any _ t z W (O2.below hb).rs ht hz.2
      generalize hM : trimM t z = M at *
      clear hM
      obtain ⟨m, mb⟩ := M
      refine (dUnhide C1).mono ?_
      rintro e v3 ⟨⟨u3, rfl, O3⟩, b3⟩
      obtain ⟨k3, c3, l3, d3, rfl⟩ := O3.shape
      try simp only at O3
      have bN := ba v3 (.cells #[.slice k3 m.kept.length c3, .slice l3 m.late.length d3, .int .i64 m.lock] 26)
      have b4 := belowThen b3 bN
      have X4 := X2.below b4
      have N4 := Bx.new v3 [.slice k3 m.kept.length c3, .slice l3 m.late.length d3, .int .i64 m.lock] 26
      have O4 := O3.below bN
      have P4 := O2.below b4
      have CS4 := dHide (dUnhide CS _ b4)
      have B4 := belowThen B2 b4
      clear C1 b3 O3 CS X2 O2 B2 b4 bN
      have y0 := X4 0 _ rfl
      have y1 := X4 1 _ rfl
      have y2 := X4 2 _ rfl
      go_wp2_with fail
      generalize hbn : v3.heap.size = bn at *
      generalize v3.alloc (.cells #[.slice k3 m.kept.length c3, .slice l3 m.late.length d3, .int .i64 m.lock] 26) = v4 at *
      clear hbn
      refine (dUnhide CS4).mono ?_
      rintro e v5 ⟨⟨u5, rfl, O5⟩, b5⟩
      obtain ⟨k5, c5, l5, d5, rfl⟩ := O5.shape
      try simp only at O5
      have bO := ba v5 (.cells #[.slice k5 m.kept.length c5, .slice l5 m.late.length d5, .int .i64 m.lock] 26)
      have b6 := belowThen b5 bO
      have X6 := X4.below b6
      have N6 := N4.below b6
      have O6 := O4.below b6
      have P6 := P4.below b6
      have B6 := belowThen B4 b6
      clear CS4 b5 O5 X4 N4 O4 P4 B4 b6 bO y0 y1 y2
      cases mb
      · clear TT
        go_wp2
        generalize v5.alloc (.cells #[.slice k5 m.kept.length c5, .slice l5 m.late.length d5, .int .i64 m.lock] 26) = v6 at *
        go_loopw [15] (fun xv wq => xv = .int .i64 0 ∧ Below v6.heap.size v6 wq) (fun _ _ => 0)
        case atStart => exact ⟨rfl, Below.refl _ _⟩
        case round =>
          obtain ⟨rfl, hq⟩ := hrel
          have X7 := X6.below hq
          have y0 := X7 0 _ rfl
          have B7 := belowThen B6 hq
          clear X6 N6 O6 P6 X7 hq
          by_cases hn : (0 : Int) < (t.kept.length : Int)
          · go_wp2
            go_ret
            exact ⟨rfl, B7⟩
          · go_wp2
            go_ret
            exact ⟨rfl, B7⟩
      · obtain ⟨hmr, hmg⟩ := dUnhide TT m rfl
        clear TT
        go_wp2
        generalize v5.alloc (.cells #[.slice k5 m.kept.length c5, .slice l5 m.late.length d5, .int .i64 m.lock] 26) = v6 at *
        have CG2 := dHide fun W (hb : Below v6.heap.size v6 W) y => implGet_any _ m y W (O6.below hb).rs (stP_fit hmr)
        have RK : Hid (Rw 4 Ent.cl v6 (.slice ta t.kept.length tc) t.kept) := by
          obtain ⟨kv, lv, e, rk, -⟩ := P6.rs
          cases e
          exact rk
        have HG := dHide hmg
        clear O6 P6 hmr hmg
        go_loopw [15] (fun xv wq => ∃ k : Nat, xv = .int .i64 (k : Int) ∧ k ≤ t.kept.length ∧ Below v6.heap.size v6 wq) (fun xv _ => t.kept.length - (intOf xv).toNat)
        case atStart => exact ⟨0, rfl, Nat.zero_le _, Below.refl _ _⟩
        case round =>
          obtain ⟨k, rfl, hkn, hq⟩ := hrel
          have B7 := belowThen B6 hq
          have X7 := X6.below hq
          have N7 := N6.below hq
          by_cases hlt : (k : Int) < (t.kept.length : Int)
          · have hk : k < t.kept.length := by omega
            obtain ⟨eb, eo, rfl, hc⟩ := ((dUnhide RK).below hq).ent hk
            have c0 := (hc k hk).1
            have hgk := dUnhide HG k hk
            have CGk := dHide fun W (h : Below wr.heap.size wr W) => dUnhide CG2 W (belowThen hq h) t.kept[k].pl
            simp only [findT_is] at CGk
            rw [hgk] at CGk
            generalize (getM m t.kept[k].pl).getD noEnt = g at *
            generalize t.kept[k].pl = P at *
            obtain ⟨P2, V2, H2, D2⟩ := g
            unfold Ent.val at CGk
            simp only at CGk
            clear hc hgk CG2 HG
            obtain ⟨y0, n0, n1, n2⟩ : (wr.cell? ⟨bt, 0, none⟩ = some (.slice (some ⟨eb, eo, none⟩) t.kept.length tc)) ∧ (wr.cell? ⟨bn, 0, none⟩ = some (.slice k3 m.kept.length c3)) ∧ (wr.cell? ⟨bn, 1, none⟩ = some (.slice l3 m.late.length d3)) ∧ (wr.cell? ⟨bn, 2, none⟩ = some (.int .i64 m.lock)) := ⟨X7 0 _ rfl, N7 0 _ rfl, N7 1 _ rfl, N7 2 _ rfl⟩
            have HS : Hid (∀ W, Below wr.heap.size wr W → (W.cell? ⟨bt, 0, none⟩ = some (.slice (some ⟨eb, eo, none⟩) t.kept.length tc)) ∧ (W.cell? ⟨bn, 0, none⟩ = some (.slice k3 m.kept.length c3)) ∧ (W.cell? ⟨bn, 1, none⟩ = some (.slice l3 m.late.length d3)) ∧ (W.cell? ⟨bn, 2, none⟩ = some (.int .i64 m.lock)) ∧ W.cell? ⟨eb, eo + k * 4, none⟩ = some (.int .i64 P)) := fun W h =>
              ⟨(h.cell (p := ⟨bt, 0, none⟩) (dCell_lt y0)).trans y0, (h.cell (p := ⟨bn, 0, none⟩) (dCell_lt n0)).trans n0, (h.cell (p := ⟨bn, 1, none⟩) (dCell_lt n1)).trans n1, (h.cell (p := ⟨bn, 2, none⟩) (dCell_lt n2)).trans n2, (h.cell (p := ⟨eb, eo + k * 4, none⟩) (dCell_lt c0)).trans c0⟩
            have t1 : (0 : Int) ≤ (k : Int) := by omega
            have hbr := Below.refl wr.heap.size wr
            clear X7 N7
            go_wp2_with fail
            go_cut [16, 17] (fun xv ov wx => ov = .bool (decide (z < P)) ∧ Below wr.heap.size wr wx)
            case first =>
              go_region_held3 (fun W => W.cell? ⟨bt, 0, none⟩ = some (.slice (some ⟨eb, eo, none⟩) t.kept.length tc) ∧ W.cell? ⟨bn, 0, none⟩ = some (.slice k3 m.kept.length c3) ∧ W.cell? ⟨bn, 1, none⟩ = some (.slice l3 m.late.length d3) ∧ W.cell? ⟨bn, 2, none⟩ = some (.int .i64 m.lock) ∧ W.cell? ⟨eb, eo + k * 4, none⟩ = some (.int .i64 P)) (first | exact dUnhide HS _ (below_four hb7 zz.1 _ _ _ _) | go_keep)
                (first
                  | (go_at_call 26; refine (dUnhide CGk _ (by first | exact hbr.drew | exact hbr.drew.alloc hbr.size _)).mono ?_; rintro r w7 ⟨rfl, b7⟩; have hb7 := belowThen (by first | exact hbr.drew | exact hbr.drew.alloc hbr.size _) b7; obtain ⟨y0, n0, n1, n2, c0⟩ := dUnhide HS w7 hb7; (first | have zz := made4D hbr.size b7 | have zz : BxZ w7 wr.heap.size wr.heap.size [_, _, _, _] := made4 hbr.size b7 | skip); (try obtain ⟨z0, f0⟩ := zz.2 0 _ rfl); (try obtain ⟨z1, f1⟩ := zz.2 1 _ rfl); (try obtain ⟨z2, f2⟩ := zz.2 2 _ rfl); (try obtain ⟨z3, f3⟩ := zz.2 3 _ rfl)))
              all_goals
                go_wp2_with fail
                go_meet
                case rel => first | exact ⟨rfl, below_four hb7 zz.1 _ _ _ _⟩ | exact ⟨rfl, hb7.alloc hb7.size _⟩
            case rest =>
              obtain ⟨rfl, bc⟩ := hcut
              obtain ⟨y0, -, -, -, c0⟩ := dUnhide HS wc bc
              have hq8 := belowThen hq bc
              by_cases hz2 : z < P
              · have hd1 : decide (z < P) = true := decide_eq_true hz2
                go_wp2
                go_roundw
                case rel => exact ⟨k + 1, by go_num, by omega, hq8⟩
                case measure => simp [intOf]; omega
              · have hd1 : decide (z < P) = false := decide_eq_false hz2
                go_wp2
                go_roundw
                case rel => exact ⟨k + 1, by go_num, by omega, hq8⟩
                case measure => simp [intOf]; omega
          · have y0 := X7 0 _ rfl
            clear X7 N7 X6 N6 CG2 HG RK
            go_wp2
            go_ret
            exact ⟨rfl, B7⟩
end Go.Proofs.Ytenpnnocdjakdaa
