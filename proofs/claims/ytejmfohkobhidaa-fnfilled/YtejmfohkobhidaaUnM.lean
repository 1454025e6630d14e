/- impl's mergeTwo. -/
import Derived.Test.YtejmfohkobhidaaJmP
import Derived.Test.YtejmfohkobhidaaUnA
import Derived.Test.YtejmfohkobhidaaGbE
import Derived.Test.YtejmfohkobhidaaGbG
import Derived.Test.YtejmfohkobhidaaGbI
import Derived.Laws.MakeOwn
import Derived.Deep.RegionHeld3
import Derived.BigQuiet
namespace Go.Proofs.Ytejmfohkobhidaa
open Go.ChangeShapes Go.WideShapes Go.ChangeAt Go.RowKit
set_option linter.unusedVariables false
set_option linter.unusedSimpArgs false
set_option maxRecDepth 100000

/-- Room for n entries, none of which is there yet. -/
theorem makeE0 (n : Nat) (h : n ≤ 1073741824) (w : World) : (Instr.makeSlice 24 (.int .i64 0) (.int .i64 (n : Int))).run Try.prog w = .ok (.slice (some ⟨w.heap.size, 0, none⟩) 0 n) (w.alloc (.cells (zerosE n) 28)) := by
  obtain ⟨i0, hi, hz0, hz1, hz2⟩ := info_parts (elemE).info
  have := run_make (P := Try.prog) w 24 28 i0 _ Try.underlying24 hi hz0 .i64 .i64 0 (n : Int) (by omega) (by omega) (by rw [hz2]; omega) (by omega)
  rw [hz1] at this
  simpa [zerosE] using this
theorem roomE (n : Nat) (h : n ≤ 1073741824) (w : World) : ApE (w.alloc (.cells (zerosE n) 28)) w.heap.size (.slice (some ⟨w.heap.size, 0, none⟩) 0 n) [] := by
  have hw := MapKept.heap_alloc w (.cells (zerosE n) 28)
  refine .inr ⟨rfl, .inr ⟨w.heap.size, n, zerosE n, rfl, Nat.le_refl _, ?_, Nat.zero_le _, ?_, ?_, ?_⟩⟩
  · simpa using hw.1
  · show n ≤ 9223372036854775807
    omega
  · exact size_madeCells _ _
  · simp [fcells]
/-- Behind the first. -/
theorem Rw.tail {w : World} {b off n cap : Nat} {x : Ent} {xs : List Ent} (h : Rw 4 Ent.cl w (.slice (some ⟨b, off, none⟩) n cap) (x :: xs)) : Rw 4 Ent.cl w (.slice (some ⟨b, off + 4, none⟩) xs.length (cap - 1)) xs := by
  obtain ⟨h0, a', cap', e, hcap, h⟩ := h
  cases e
  simp only [List.length_cons] at h0 hcap
  refine ⟨by omega, _, _, rfl, by omega, .inr ⟨b, off + 4, rfl, fun i hi j u hu => ?_⟩⟩
  rcases h with h | ⟨b', off', e, hc⟩
  · cases h
  · cases e
    have := hc (i + 1) (by simpa using hi) j u (by simpa using hu)
    rw [show off + 4 + i * 4 + j = off + (i + 1) * 4 + j by omega]
    exact this
theorem tailE {w : World} {b off n cap : Nat} {x : Ent} {xs : List Ent} (h : Rw 4 Ent.cl w (.slice (some ⟨b, off, none⟩) n cap) (x :: xs)) : Rw 4 Ent.cl w (.slice (some ⟨b, off + 4, none⟩) xs.length (cap - 1)) xs ∧ (cap = 1 → ∀ a, Rw 4 Ent.cl w (.slice a xs.length 0) xs) ∧ xs.length + 1 ≤ cap ∧ cap ≤ 9223372036854775807 := by
  refine ⟨h.tail, ?_⟩
  obtain ⟨h0, a', cap', e, hcap, -⟩ := h
  cases e
  simp only [List.length_cons] at hcap
  refine ⟨fun e => ?_, by omega, by omega⟩
  have : xs = [] := List.length_eq_zero_iff.1 (by omega)
  subst this
  exact fun a => Rw.nil _ _ _ (by omega)
def lenOf : Value → Nat
  | .slice _ n _ => n
  | _ => 0
/-- Where mergeTwo stands when it compares. -/
def JM (w : World) (M : List Ent) (a' : Act) (w' : World) : Prop := ∃ (xs ys zs : List Ent) (aa ba ma : Option Addr) (ca cb mc : Nat) (u2 u3 u4 u6 u7 u8 u9 u10 u11 u12 u13 u14 u15 u16 u17 u18 u19 u20 u21 u22 u23 u24 u25 u26 u27 u28 u29 u30 u31 u32 u33 u34 u35 u36 u37 u38 u39 u40 u41 u42 u43 u44 u45 u46 u47 u48 u49 u50 u51 u52 u53 u54 u55 u56 u57 u58 u59 u60 u61 u62 u63 u64 u65 u66 u67 u68 u69 u70 u71 u72 u73 : Value), a' = { tmps := #[.slice aa xs.length ca, .slice ba ys.length cb, u2, u3, u4, .slice ma zs.length mc, u6, u7, u8, u9, u10, u11, u12, u13, u14, u15, u16, u17, u18, u19, u20, u21, u22, u23, u24, u25, u26, u27, u28, u29, u30, u31, u32, u33, u34, u35, u36, u37, u38, u39, u40, u41, u42, u43, u44, u45, u46, u47, u48, u49, u50, u51, u52, u53, u54, u55, u56, u57, u58, u59, u60, u61, u62, u63, u64, u65, u66, u67, u68, u69, u70, u71, u72, u73], defers := [] } ∧ Rw 4 Ent.cl w (.slice aa xs.length ca) xs ∧ Rw 4 Ent.cl w (.slice ba ys.length cb) ys ∧ ApE w' w.heap.size (.slice ma zs.length mc) zs ∧ zs ++ mrgL xs ys = M ∧ zs.length + xs.length + ys.length ≤ 1048576 ∧ Below w.heap.size w w'
theorem JM.mk {w : World} {M : List Ent} {w' : World} {xs ys zs : List Ent} {aa ba ma : Option Addr} {ca cb mc : Nat} {u2 u3 u4 u6 u7 u8 u9 u10 u11 u12 u13 u14 u15 u16 u17 u18 u19 u20 u21 u22 u23 u24 u25 u26 u27 u28 u29 u30 u31 u32 u33 u34 u35 u36 u37 u38 u39 u40 u41 u42 u43 u44 u45 u46 u47 u48 u49 u50 u51 u52 u53 u54 u55 u56 u57 u58 u59 u60 u61 u62 u63 u64 u65 u66 u67 u68 u69 u70 u71 u72 u73 : Value} (h1 : Rw 4 Ent.cl w (.slice aa xs.length ca) xs) (h2 : Rw 4 Ent.cl w (.slice ba ys.length cb) ys) (h3 : ApE w' w.heap.size (.slice ma zs.length mc) zs) (h4 : zs ++ mrgL xs ys = M) (h5 : zs.length + xs.length + ys.length ≤ 1048576) (h6 : Below w.heap.size w w') : JM w M { tmps := #[.slice aa xs.length ca, .slice ba ys.length cb, u2, u3, u4, .slice ma zs.length mc, u6, u7, u8, u9, u10, u11, u12, u13, u14, u15, u16, u17, u18, u19, u20, u21, u22, u23, u24, u25, u26, u27, u28, u29, u30, u31, u32, u33, u34, u35, u36, u37, u38, u39, u40, u41, u42, u43, u44, u45, u46, u47, u48, u49, u50, u51, u52, u53, u54, u55, u56, u57, u58, u59, u60, u61, u62, u63, u64, u65, u66, u67, u68, u69, u70, u71, u72, u73], defers := [] } w' :=
  ⟨xs, ys, zs, aa, ba, ma, ca, cb, mc, u2, u3, u4, u6, u7, u8, u9, u10, u11, u12, u13, u14, u15, u16, u17, u18, u19, u20, u21, u22, u23, u24, u25, u26, u27, u28, u29, u30, u31, u32, u33, u34, u35, u36, u37, u38, u39, u40, u41, u42, u43, u44, u45, u46, u47, u48, u49, u50, u51, u52, u53, u54, u55, u56, u57, u58, u59, u60, u61, u62, u63, u64, u65, u66, u67, u68, u69, u70, u71, u72, u73, rfl, h1, h2, h3, h4, h5, h6⟩
set_option maxHeartbeats 4000000 in
theorem mergeTwo_any (u v : Value) (xa xb : List Ent) (w : World) (hu : Rw 4 Ent.cl w u xa) (hv : Rw 4 Ent.cl w v xb) (hl : xa.length + xb.length ≤ 1048576) :
    Calls Try.prog 95 #[u, v] w fun e w' => (∃ o, e = .returned o ∧ ApE w' w.heap.size o (mrgL xa xb)) ∧ Below w.heap.size w w' := by
  have ba : ∀ (w : World) o, Below w.heap.size w (w.alloc o) := fun w o => (Below.refl _ _).alloc (Nat.le_refl _) o
  obtain ⟨h0, a, ac, rfl, -, -⟩ := id hu
  obtain ⟨h1, b, bc, rfl, -, -⟩ := id hv
  have mk := makeE0 (xa.length + xb.length) (by omega)
  rw [Int.natCast_add] at mk
  have A0 := roomE (xa.length + xb.length) (by omega) w
  have B0 := ba w (.cells (zerosE (xa.length + xb.length)) 28)
  go_enter Try.func95, Try.ntmps95
  go_wp2
  refine wp_scope_loop 1 (JM w (mrgL xa xb)) (fun a' _ => lenOf (a'.tmps.getD 0 undef) + lenOf (a'.tmps.getD 1 undef)) (by rfl) ?_ ?_
  · go_wp2
    exact JM.mk (zs := []) hu hv A0 rfl (by simpa using hl) B0
  · intro a' w' hJ
    clear A0 B0 mk hu hv hl h0 h1
    obtain ⟨xs, ys, zs, aa, bb, ma, ca, cb, mc, u2, u3, u4, u6, u7, u8, u9, u10, u11, u12, u13, u14, u15, u16, u17, u18, u19, u20, u21, u22, u23, u24, u25, u26, u27, u28, u29, u30, u31, u32, u33, u34, u35, u36, u37, u38, u39, u40, u41, u42, u43, u44, u45, u46, u47, u48, u49, u50, u51, u52, u53, u54, u55, u56, u57, u58, u59, u60, u61, u62, u63, u64, u65, u66, u67, u68, u69, u70, u71, u72, u73, rfl, hx, hy, hz, hm, hll, hB⟩ := hJ
    have HX := dHide fun W (hb : Below w.heap.size w W) => hx.below hb
    have HY := dHide fun W (hb : Below w.heap.size w W) => hy.below hb
    have HZ := dHide hz
    by_cases hE : xs = [] ∨ ys = []
    · have HF : Hid (zs ++ xs ++ ys = mrgL xa xb) := by
        rw [Hid, ← hm]
        rcases hE with rfl | rfl
        · rw [mrgL_nil]; simp
        · rw [mrgL_nil']; simp
      clear hm hx hy
      have hd : ((xs.length : Int) == 0) = true ∨ (((xs.length : Int) == 0) = false ∧ ((ys.length : Int) == 0) = true) := by
        rcases hE with rfl | rfl
        · left; rfl
        · by_cases h : xs.length = 0
          · left; simp [h]
          · right; refine ⟨?_, rfl⟩; simpa using h
      have hz' := dUnhide HZ
      clear hE
      rcases hd with hd | ⟨hd, hd2⟩
      · go_wp2
        go_step3
        repeat refine then_goto ?_
        refine exitFwd_on (l := 0) (r := ?r1) ?hf1 ?hgo1
        case hf1 => exact rfl
        go_wp2_with (at_builtin; refine wp_apR elemE rfl _ _ rfl w.heap.size (.slice ma zs.length mc) zs rfl (dUnhide HZ) _ xs rfl (dUnhide HX _ hB) ?a2 ?b2 ?c2 ?d2)
        case a2 => omega
        case b2 => omega
        case c2 => exact hB.size
        intro v2 w2 P2 g2 t2
        have hb2 := Below.grown hB g2 hB.size (fun k hk => ((dUnhide HZ).touched elemE hk).1)
        have hp3 : (zs ++ xs).length + ys.length ≤ 1048576 := by simp; omega
        generalize zs ++ xs = Z at *
        obtain ⟨oa, oc, rfl⟩ := ApR.slice elemE P2
        have HP2 := dHide P2
        clear g2 t2 P2 hz' HZ
        go_wp2_with (at_builtin; refine wp_apR elemE rfl _ _ rfl w.heap.size (.slice oa Z.length oc) Z rfl (dUnhide HP2) _ ys rfl (dUnhide HY _ hb2) ?a3 ?b3 ?c3 ?d3)
        case a3 => omega
        case b3 => omega
        case c3 => exact hb2.size
        intro v3 w3 P3 g3 t3
        have hb3 := Below.grown hb2 g3 hb2.size (fun k hk => ((dUnhide HP2).touched elemE hk).1)
        rw [dUnhide HF] at P3
        clear g3 t3 HP2
        go_wp2
        simp only [Exit.jump]
        go_ret
        exact ⟨⟨_, rfl, P3⟩, hb3⟩
      · go_wp2
        go_step3
        repeat refine then_goto ?_
        refine exitFwd_on (l := 0) (r := ?r4) ?hf4 ?hgo4
        case hf4 => exact rfl
        go_wp2_with (at_builtin; refine wp_apR elemE rfl _ _ rfl w.heap.size (.slice ma zs.length mc) zs rfl (dUnhide HZ) _ xs rfl (dUnhide HX _ hB) ?a5 ?b5 ?c5 ?d5)
        case a5 => omega
        case b5 => omega
        case c5 => exact hB.size
        intro v2 w2 P2 g2 t2
        have hb2 := Below.grown hB g2 hB.size (fun k hk => ((dUnhide HZ).touched elemE hk).1)
        have hp3 : (zs ++ xs).length + ys.length ≤ 1048576 := by simp; omega
        generalize zs ++ xs = Z at *
        obtain ⟨oa, oc, rfl⟩ := ApR.slice elemE P2
        have HP2 := dHide P2
        clear g2 t2 P2 hz' HZ
        go_wp2_with (at_builtin; refine wp_apR elemE rfl _ _ rfl w.heap.size (.slice oa Z.length oc) Z rfl (dUnhide HP2) _ ys rfl (dUnhide HY _ hb2) ?a6 ?b6 ?c6 ?d6)
        case a6 => omega
        case b6 => omega
        case c6 => exact hb2.size
        intro v3 w3 P3 g3 t3
        have hb3 := Below.grown hb2 g3 hb2.size (fun k hk => ((dUnhide HP2).touched elemE hk).1)
        rw [dUnhide HF] at P3
        clear g3 t3 HP2
        go_wp2
        simp only [Exit.jump]
        go_ret
        exact ⟨⟨_, rfl, P3⟩, hb3⟩
    · obtain ⟨x, xs, rfl⟩ : ∃ x l, xs = x :: l := by
        cases xs with
        | nil => exact absurd (.inl rfl) hE
        | cons x l => exact ⟨x, l, rfl⟩
      obtain ⟨y, ys, rfl⟩ : ∃ x l, ys = x :: l := by
        cases ys with
        | nil => exact absurd (.inr rfl) hE
        | cons x l => exact ⟨x, l, rfl⟩
      obtain ⟨ab, ao, rfl, hcx⟩ := Rw.ent hx (k := 0) (by simp)
      obtain ⟨bk, bo, rfl, hcy⟩ := Rw.ent hy (k := 0) (by simp)
      have HCX : Hid (∀ W, Below w.heap.size w W → EntAt W ab ao x) := fun W hb => by have q := (hcx 0 (by simp)).below hb; rw [Nat.zero_mul, Nat.add_zero] at q; exact q
      have HCY : Hid (∀ W, Below w.heap.size w W → EntAt W bk bo y) := fun W hb => by have q := (hcy 0 (by simp)).below hb; rw [Nat.zero_mul, Nat.add_zero] at q; exact q
      have TX : Hid (Rw 4 Ent.cl w (.slice (some ⟨ab, ao + 4, none⟩) xs.length (ca - 1)) xs ∧ (ca = 1 → ∀ a, Rw 4 Ent.cl w (.slice a xs.length 0) xs) ∧ xs.length + 1 ≤ ca ∧ ca ≤ 9223372036854775807) := tailE hx
      have TY : Hid (Rw 4 Ent.cl w (.slice (some ⟨bk, bo + 4, none⟩) ys.length (cb - 1)) ys ∧ (cb = 1 → ∀ a, Rw 4 Ent.cl w (.slice a ys.length 0) ys) ∧ ys.length + 1 ≤ cb ∧ cb ≤ 9223372036854775807) := tailE hy
      obtain ⟨c0, c1, c2, c3⟩ := dUnhide HCX w' hB
      obtain ⟨d0, d1, d2, d3⟩ := dUnhide HCY w' hB
      obtain ⟨-, -, cx1, cx2⟩ := dUnhide TX
      obtain ⟨-, -, cy1, cy2⟩ := dUnhide TY
      have RX : Hid (∀ (w : World) T, Rw 4 Ent.cl (w.alloc (.cells #[.int .i64 x.pl, .int .i64 x.wave, .bool x.hole, .string x.data] T)) (.slice (some ⟨w.heap.size, 0, none⟩) 1 1) [x]) := fun w T => rw_one w x T 1 (by omega)
      have RY : Hid (∀ (w : World) T, Rw 4 Ent.cl (w.alloc (.cells #[.int .i64 y.pl, .int .i64 y.wave, .bool y.hole, .string y.data] T)) (.slice (some ⟨w.heap.size, 0, none⟩) 1 1) [y]) := fun w T => rw_one w y T 1 (by omega)
      have HM := dHide hm
      have HX0 := dHide hx
      have HY0 := dHide hy
      have hl1 : ((xs.length : Int) + 1 == 0) = false := by rw [beq_eq_false_iff_ne]; omega
      have hl2 : ((ys.length : Int) + 1 == 0) = false := by rw [beq_eq_false_iff_ne]; omega
      have hlx : zs.length + (xs.length + 1) + (ys.length + 1) ≤ 1048576 := by simpa using hll
      clear hE hx hy hcx hcy hm HX HY hz hll
      rcases Int.lt_trichotomy x.pl y.pl with h | h | h
      · have e1 : decide (x.pl < y.pl) = true := decide_eq_true h
        have HN : Hid ((zs ++ [x]) ++ mrgL xs (y :: ys) = mrgL xa xb) := by rw [Hid, ← dUnhide HM, mrgL_lt _ _ h]; simp
        clear h HM
        go_wp2
        go_quiet (fail)
        go_wp2
        generalize hwq : w'.drewN _ = wq at *
        have hBwq : Below w.heap.size w wq := by rw [← hwq]; exact below_drewN hB _
        have HZwq := dHide ((dUnhide HZ).below (w' := wq) (by rw [← hwq]; exact below_drewN (Below.refl _ _) _))
        clear hwq c0 c1 c2 c3 d0 d1 d2 d3
        obtain ⟨c0, c1, c2, c3⟩ := dUnhide HCX wq hBwq
        obtain ⟨d0, d1, d2, d3⟩ := dUnhide HCY wq hBwq
        go_step3
        repeat refine then_goto ?_
        refine exitFwd_on (l := 2) (r := ?r7) ?hf7 ?hgo7
        case hf7 => exact rfl
        go_wp2_with (at_builtin; refine wp_apR elemE rfl _ _ rfl w.heap.size (.slice ma zs.length mc) zs rfl (ApR.below (dUnhide HZwq) (ba _ _)) _ [x] rfl (dUnhide RX _ _) ?a8 ?b8 ?c8 ?d8)
        case a8 => (try simp); omega
        case b8 => (try simp); omega
        case c8 => exact (belowThen hBwq (ba _ _)).size
        intro v2 w2 P2 g2 t2
        have hb2 := Below.grown (belowThen hBwq (ba _ _)) g2 (belowThen hBwq (ba _ _)).size (fun k hk => ((dUnhide HZwq).touched elemE hk).1)
        have hZl : Hid ((zs ++ [x]).length = zs.length + 1) := by simp [Hid]
        generalize zs ++ [x] = Z at *
        obtain ⟨oa, oc, rfl⟩ := ApR.slice elemE P2
        have HP2 := dHide P2
        clear g2 t2 P2 c0 c1 c2 c3 d0 d1 d2 d3
        go_wp2
        all_goals
          go_step3
          repeat refine then_goto ?_
          refine ⟨rfl, JM.mk (zs := Z) ?_ (dUnhide HY0) (dUnhide HP2) (dUnhide HN) (by have := dUnhide hZl; simp only [List.length_cons]; omega) hb2, ?_⟩
          · first | exact (dUnhide TX).1 | exact (dUnhide TX).2.1 (by omega) _
          · simp [lenOf]
      · have e1 : decide (x.pl < y.pl) = false := decide_eq_false (by omega)
        have e2 : decide (y.pl < x.pl) = false := decide_eq_false (by omega)
        have HN : Hid ((zs ++ [better x y]) ++ mrgL xs ys = mrgL xa xb) := by rw [Hid, ← dUnhide HM, mrgL_eq _ _ h]; simp
        clear h HM
        go_wp2
        go_quiet (fail)
        go_wp2
        generalize hwq : w'.drewN _ = wq at *
        have hBwq : Below w.heap.size w wq := by rw [← hwq]; exact below_drewN hB _
        have HZwq := dHide ((dUnhide HZ).below (w' := wq) (by rw [← hwq]; exact below_drewN (Below.refl _ _) _))
        clear hwq c0 c1 c2 c3 d0 d1 d2 d3
        obtain ⟨c0, c1, c2, c3⟩ := dUnhide HCX wq hBwq
        obtain ⟨d0, d1, d2, d3⟩ := dUnhide HCY wq hBwq
        go_quiet (fail)
        go_wp2
        generalize hwq : wq.drewN _ = wp at *
        have hBwp : Below w.heap.size w wp := by rw [← hwq]; exact below_drewN hBwq _
        have HZwp := dHide ((dUnhide HZwq).below (w' := wp) (by rw [← hwq]; exact below_drewN (Below.refl _ _) _))
        clear hwq c0 c1 c2 c3 d0 d1 d2 d3
        obtain ⟨c0, c1, c2, c3⟩ := dUnhide HCX wp hBwp
        obtain ⟨d0, d1, d2, d3⟩ := dUnhide HCY wp hBwp
        have HS : Hid (∀ W, Below w.heap.size w W → (W.cell? ⟨ab, ao, none⟩ = some (.int .i64 x.pl) ∧ W.cell? ⟨ab, ao + 1, none⟩ = some (.int .i64 x.wave) ∧ W.cell? ⟨ab, ao + 2, none⟩ = some (.bool x.hole) ∧ W.cell? ⟨ab, ao + 3, none⟩ = some (.string x.data)) ∧ W.cell? ⟨bk, bo, none⟩ = some (.int .i64 y.pl) ∧ W.cell? ⟨bk, bo + 1, none⟩ = some (.int .i64 y.wave) ∧ W.cell? ⟨bk, bo + 2, none⟩ = some (.bool y.hole) ∧ W.cell? ⟨bk, bo + 3, none⟩ = some (.string y.data)) := fun W hb => ⟨dUnhide HCX W hb, dUnhide HCY W hb⟩
        have HZd := dHide ((dUnhide HZwp).below ((Below.refl _ _).drew))
        have CB := dHide fun W => implBetter_any x y W
        have RB : Hid (∀ (w : World) T, Rw 4 Ent.cl (w.alloc (.cells #[.int .i64 (better x y).pl, .int .i64 (better x y).wave, .bool (better x y).hole, .string (better x y).data] T)) (.slice (some ⟨w.heap.size, 0, none⟩) 1 1) [better x y]) := fun w T => rw_one w (better x y) T 1 (by omega)
        unfold Ent.val at CB
        generalize better x y = be at *
        refine wp_region_noPanic ?_
        refine wp_region_held_drew (S := fun W => (W.cell? ⟨ab, ao, none⟩ = some (.int .i64 x.pl) ∧ W.cell? ⟨ab, ao + 1, none⟩ = some (.int .i64 x.wave) ∧ W.cell? ⟨ab, ao + 2, none⟩ = some (.bool x.hole) ∧ W.cell? ⟨ab, ao + 3, none⟩ = some (.string x.data)) ∧ W.cell? ⟨bk, bo, none⟩ = some (.int .i64 y.pl) ∧ W.cell? ⟨bk, bo + 1, none⟩ = some (.int .i64 y.wave) ∧ W.cell? ⟨bk, bo + 2, none⟩ = some (.bool y.hole) ∧ W.cell? ⟨bk, bo + 3, none⟩ = some (.string y.data)) (by kernel_rfl) (by first | exact dUnhide HS _ hb7 | exact dUnhide HS _ hb6 | exact dUnhide HS _ hb5 | exact dUnhide HS _ hBwp | exact dUnhide HS _ (hBwp.drew)) (fun hHeld => ?_)
        refine wpAnyH_take (i := 0) (oi := { dst := some 38, op := Op.move (Operand.tmp 5), type := 24, pos := "l11_fill.go:18", after := #[], guard := none }) (v := ?_) rfl (by kernel_rfl) (by kernel_rfl) (by kernel_rfl) (fun _ _ _ h => h) (Or.inl ⟨by rfl, ?_⟩) (by assumption) ?_
        rotate_left 1
        · intro w hSw
          (try dsimp only at hSw)
          first | (go_simp; done) | (go_simp; with_reducible rfl)
        try simp only [Act.put, List.setIfInBounds_toArray, List.set_cons_zero, List.set_cons_succ]
        refine wpAnyH_take (i := 1) (oi := { dst := some 39, op := Op.move (Operand.tmp 0), type := 24, pos := "l11_fill.go:18", after := #[], guard := none }) (v := ?_) rfl (by kernel_rfl) (by kernel_rfl) (by kernel_rfl) (fun _ _ _ h => h) (Or.inl ⟨by rfl, ?_⟩) (by assumption) ?_
        rotate_left 1
        · intro w hSw
          (try dsimp only at hSw)
          first | (go_simp; done) | (go_simp; with_reducible rfl)
        try simp only [Act.put, List.setIfInBounds_toArray, List.set_cons_zero, List.set_cons_succ]
        refine wpAnyH_take (i := 2) (oi := { dst := some 40, op := Op.indexAddr 24 (Operand.tmp 39) (Operand.const (Value.int IntKind.i64 0)), type := 0, pos := "l11_fill.go:18", after := #[{ on := 1, ground := Ground.data }], guard := none }) (v := ?_) rfl (by kernel_rfl) (by kernel_rfl) (by kernel_rfl) (fun _ _ _ h => h) (Or.inl ⟨by rfl, ?_⟩) (by assumption) ?_
        rotate_left 1
        · intro w hSw
          (try dsimp only at hSw)
          first | (go_simp; done) | (go_simp; with_reducible rfl)
        try simp only [Act.put, List.setIfInBounds_toArray, List.set_cons_zero, List.set_cons_succ]
        refine wpAnyH_take (i := 3) (oi := { dst := some 41, op := Op.load 28 (Operand.tmp 40), type := 28, pos := "l11_fill.go:18", after := #[{ on := 2, ground := Ground.data }], guard := none }) (v := ?_) rfl (by kernel_rfl) (by kernel_rfl) (by kernel_rfl) (fun _ _ _ h => h) (Or.inl ⟨by rfl, ?_⟩) (by assumption) ?_
        rotate_left 1
        · intro w hSw
          (try dsimp only at hSw)
          first | (go_simp; done) | (go_simp; with_reducible rfl)
        try simp only [Act.put, List.setIfInBounds_toArray, List.set_cons_zero, List.set_cons_succ]
        refine wpAnyH_take (i := 4) (oi := { dst := some 42, op := Op.move (Operand.tmp 1), type := 24, pos := "l11_fill.go:18", after := #[], guard := none }) (v := ?_) rfl (by kernel_rfl) (by kernel_rfl) (by kernel_rfl) (fun _ _ _ h => h) (Or.inl ⟨by rfl, ?_⟩) (by assumption) ?_
        rotate_left 1
        · intro w hSw
          (try dsimp only at hSw)
          first | (go_simp; done) | (go_simp; with_reducible rfl)
        try simp only [Act.put, List.setIfInBounds_toArray, List.set_cons_zero, List.set_cons_succ]
        refine wpAnyH_take (i := 5) (oi := { dst := some 43, op := Op.indexAddr 24 (Operand.tmp 42) (Operand.const (Value.int IntKind.i64 0)), type := 0, pos := "l11_fill.go:18", after := #[{ on := 4, ground := Ground.data }], guard := none }) (v := ?_) rfl (by kernel_rfl) (by kernel_rfl) (by kernel_rfl) (fun _ _ _ h => h) (Or.inl ⟨by rfl, ?_⟩) (by assumption) ?_
        rotate_left 1
        · intro w hSw
          (try dsimp only at hSw)
          first | (go_simp; done) | (go_simp; with_reducible rfl)
        try simp only [Act.put, List.setIfInBounds_toArray, List.set_cons_zero, List.set_cons_succ]
        refine wpAnyH_take (i := 6) (oi := { dst := some 44, op := Op.load 28 (Operand.tmp 43), type := 28, pos := "l11_fill.go:18", after := #[{ on := 5, ground := Ground.data }], guard := none }) (v := ?_) rfl (by kernel_rfl) (by kernel_rfl) (by kernel_rfl) (fun _ _ _ h => h) (Or.inl ⟨by rfl, ?_⟩) (by assumption) ?_
        rotate_left 1
        · intro w hSw
          (try dsimp only at hSw)
          first | (go_simp; done) | (go_simp; with_reducible rfl)
        try simp only [Act.put, List.setIfInBounds_toArray, List.set_cons_zero, List.set_cons_succ]
        refine wpAnyH_ready (rs := [7]) (by kernel_rfl) (by simp) ?_
        refine AllReadyH.cons (o := { dst := some 45, op := Op.call { callee := Callee.value (Operand.func 77), args := #[Operand.tmp 41, Operand.tmp 44], argTypes := #[28, 28] }, type := 28, pos := "l11_fill.go:18", after := #[{ on := 3, ground := Ground.data }, { on := 6, ground := Ground.data }], guard := none }) rfl (fun K hK => ?_) AllReadyH.nil
        go_simp
        refine (dUnhide CB _).mono ?_
        rintro r w5 ⟨rfl, b5⟩
        have hb5 := belowThen (hBwp.drew) b5
        have HZ5 := dHide ((dUnhide HZd).below b5)
        clear b5
        (try go_wp2_with fail)
        refine hK.out _ _ (by first | exact dUnhide HS _ hb7 | exact dUnhide HS _ hb6 | exact dUnhide HS _ hb5 | exact dUnhide HS _ hBwp | exact dUnhide HS _ (hBwp.drew)) (fun hHeld => ?_)
        clear hK K
        try simp only [Act.put, List.setIfInBounds_toArray, List.set_cons_zero, List.set_cons_succ]
        refine wpAnyH_ready (rs := [8]) (by kernel_rfl) (by simp) ?_
        refine AllReadyH.cons (o := { dst := some 46, op := Op.buildSlice 24 1 #[(0, Operand.tmp 45)], type := 24, pos := "l11_fill.go:18", after := #[{ on := 7, ground := Ground.data }], guard := none }) rfl (fun K hK => ?_) AllReadyH.nil
        go_simp
        have hb6 := belowThen hb5 (ba w5 (.cells #[.int .i64 be.pl, .int .i64 be.wave, .bool be.hole, .string be.data] 28))
        have HZ6 := dHide ((dUnhide HZ5).below (ba w5 (.cells #[.int .i64 be.pl, .int .i64 be.wave, .bool be.hole, .string be.data] 28)))
        have R6 := dHide (dUnhide RB w5 28)
        (try go_wp2_with fail)
        refine hK.out _ _ (by first | exact dUnhide HS _ hb7 | exact dUnhide HS _ hb6 | exact dUnhide HS _ hb5 | exact dUnhide HS _ hBwp | exact dUnhide HS _ (hBwp.drew)) (fun hHeld => ?_)
        clear hK K
        try simp only [Act.put, List.setIfInBounds_toArray, List.set_cons_zero, List.set_cons_succ]
        refine wpAnyH_ready (rs := [9]) (by kernel_rfl) (by simp) ?_
        refine AllReadyH.cons (o := { dst := some 47, op := Op.call { callee := Callee.builtin Builtin.append, args := #[Operand.tmp 38, Operand.tmp 46], argTypes := #[24, 24] }, type := 24, pos := "l11_fill.go:18", after := #[{ on := 0, ground := Ground.data }, { on := 8, ground := Ground.data }, { on := 7, ground := Ground.chain }], guard := none }) rfl (fun K hK => ?_) AllReadyH.nil
        refine step_apR elemE rfl _ _ rfl w.heap.size (.slice ma zs.length mc) zs rfl (dUnhide HZ6) _ [be] rfl (dUnhide R6) (by simp; omega) (by simp; omega) hb6.size ?_
        intro v7 w7 P7 g7 t7
        have hb7 := Below.grown hb6 g7 hb6.size (fun k hk => ((dUnhide HZ6).touched elemE hk).1)
        clear g7 t7
        refine hK.out _ _ (by first | exact dUnhide HS _ hb7 | exact dUnhide HS _ hb6 | exact dUnhide HS _ hb5 | exact dUnhide HS _ hBwp | exact dUnhide HS _ (hBwp.drew)) (fun hHeld => ?_)
        clear hK K
        try simp only [Act.put, List.setIfInBounds_toArray, List.set_cons_zero, List.set_cons_succ]
        refine wpAnyH_take (i := 10) (oi := { dst := some 5, op := Op.assign (Operand.tmp 47), type := 24, pos := "l11_fill.go:18", after := #[{ on := 9, ground := Ground.data }, { on := 9, ground := Ground.chain }, { on := 0, ground := Ground.phase }, { on := 1, ground := Ground.phase }, { on := 2, ground := Ground.phase }, { on := 3, ground := Ground.phase }, { on := 4, ground := Ground.phase }, { on := 5, ground := Ground.phase }, { on := 6, ground := Ground.phase }, { on := 7, ground := Ground.phase }, { on := 8, ground := Ground.phase }, { on := 9, ground := Ground.phase }], guard := none }) (v := ?_) rfl (by kernel_rfl) (by kernel_rfl) (by kernel_rfl) (fun _ _ _ h => h) (Or.inl ⟨by rfl, ?_⟩) (by assumption) ?_
        rotate_left 1
        · intro w hSw
          (try dsimp only at hSw)
          first | (go_simp; done) | (go_simp; with_reducible rfl)
        try simp only [Act.put, List.setIfInBounds_toArray, List.set_cons_zero, List.set_cons_succ]
        refine wpAnyH_done (by kernel_rfl) ?_ _
        refine NoPanic.normal ?_
        clear hHeld HZ6 R6 HZ5 hb6 hb5
        obtain ⟨c0, c1, c2, c3⟩ := dUnhide HCX w7 hb7
        clear c0 c1 c2 c3
        have hZl : Hid ((zs ++ [be]).length = zs.length + 1) := by simp [Hid]
        generalize zs ++ [be] = Z at *
        obtain ⟨oa, oc, rfl⟩ := ApR.slice elemE P7
        have HP2 := dHide P7
        clear P7
        by_cases k1 : ca = 1
        all_goals
          by_cases k2 : cb = 1
          all_goals
            (try have k1' : ca ≠ 1 := k1)
            (try have k2' : cb ≠ 1 := k2)
            (try (have x0 : xs = [] := List.length_eq_zero_iff.1 (by omega); subst x0))
            (try (have y0 : ys = [] := List.length_eq_zero_iff.1 (by omega); subst y0))
            (try subst k1)
            (try subst k2)
            go_wp2
            go_quiet (fail)
            go_wp2
            go_step3
            repeat refine then_goto ?_
            refine exitFwd_back ⟨JM.mk (zs := Z) ?_ ?_ (ApR.below (dUnhide HP2) (below_drewN (Below.refl _ _) _)) (dUnhide HN) (by have := dUnhide hZl; (try simp only [List.length_nil]); omega) (below_drewN hb7 _), ?_⟩
            · first | exact (dUnhide TX).1 | exact Rw.nil _ _ _ (by omega)
            · first | exact (dUnhide TY).1 | exact Rw.nil _ _ _ (by omega)
            · simp [lenOf] <;> omega
      · have e1 : decide (x.pl < y.pl) = false := decide_eq_false (by omega)
        have e2 : decide (y.pl < x.pl) = true := decide_eq_true h
        have HN : Hid ((zs ++ [y]) ++ mrgL (x :: xs) ys = mrgL xa xb) := by rw [Hid, ← dUnhide HM, mrgL_gt _ _ h]; simp
        clear h HM
        go_wp2
        go_quiet (fail)
        go_wp2
        generalize hwq : w'.drewN _ = wq at *
        have hBwq : Below w.heap.size w wq := by rw [← hwq]; exact below_drewN hB _
        have HZwq := dHide ((dUnhide HZ).below (w' := wq) (by rw [← hwq]; exact below_drewN (Below.refl _ _) _))
        clear hwq c0 c1 c2 c3 d0 d1 d2 d3
        obtain ⟨c0, c1, c2, c3⟩ := dUnhide HCX wq hBwq
        obtain ⟨d0, d1, d2, d3⟩ := dUnhide HCY wq hBwq
        go_quiet (fail)
        go_wp2
        generalize hwq : wq.drewN _ = wp at *
        have hBwp : Below w.heap.size w wp := by rw [← hwq]; exact below_drewN hBwq _
        have HZwp := dHide ((dUnhide HZwq).below (w' := wp) (by rw [← hwq]; exact below_drewN (Below.refl _ _) _))
        clear hwq c0 c1 c2 c3 d0 d1 d2 d3
        obtain ⟨c0, c1, c2, c3⟩ := dUnhide HCX wp hBwp
        obtain ⟨d0, d1, d2, d3⟩ := dUnhide HCY wp hBwp
        go_step3
        repeat refine then_goto ?_
        refine exitFwd_on (l := 3) (r := ?r9) ?hf9 ?hgo9
        case hf9 => exact rfl
        go_wp2_with (at_builtin; refine wp_apR elemE rfl _ _ rfl w.heap.size (.slice ma zs.length mc) zs rfl (ApR.below (dUnhide HZwp) (ba _ _)) _ [y] rfl (dUnhide RY _ _) ?a10 ?b10 ?c10 ?d10)
        case a10 => (try simp); omega
        case b10 => (try simp); omega
        case c10 => exact (belowThen hBwp (ba _ _)).size
        intro v2 w2 P2 g2 t2
        have hb2 := Below.grown (belowThen hBwp (ba _ _)) g2 (belowThen hBwp (ba _ _)).size (fun k hk => ((dUnhide HZwp).touched elemE hk).1)
        have hZl : Hid ((zs ++ [y]).length = zs.length + 1) := by simp [Hid]
        generalize zs ++ [y] = Z at *
        obtain ⟨oa, oc, rfl⟩ := ApR.slice elemE P2
        have HP2 := dHide P2
        clear g2 t2 P2 c0 c1 c2 c3 d0 d1 d2 d3
        go_wp2
        all_goals
          go_step3
          repeat refine then_goto ?_
          refine ⟨rfl, JM.mk (zs := Z) (dUnhide HX0) ?_ (dUnhide HP2) (dUnhide HN) (by have := dUnhide hZl; simp only [List.length_cons]; omega) hb2, ?_⟩
          · first | exact (dUnhide TY).1 | exact (dUnhide TY).2.1 (by omega) _
          · simp [lenOf]
end Go.Proofs.Ytejmfohkobhidaa

