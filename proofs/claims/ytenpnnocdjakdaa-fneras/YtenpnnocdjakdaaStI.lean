/- spec's StoreEra. -/
import Derived.Test.YtenpnnocdjakdaaStE
namespace Go.Proofs.Ytenpnnocdjakdaa
open Go.ChangeShapes Go.WideShapes Go.ChangeAt Go.RowKit
set_option linter.unusedVariables false
set_option linter.unusedSimpArgs false
set_option maxRecDepth 100000

open Classical in
/-- StoreEra. -/
noncomputable def eraM (s : St) (x : Int) : List Ent := if stP s then eraL s.kept x else []
theorem eraL_snoc (es : List Ent) (e : Ent) (x : Int) : eraL (es ++ [e]) x = if e.pl / 4294967296 = x then eraL es x ++ [e] else eraL es x := by
  unfold eraL
  rw [List.filter_append]
  by_cases h : e.pl / 4294967296 = x <;> simp [h]
theorem eraL_len (es : List Ent) (x : Int) : (eraL es x).length ≤ es.length := List.length_filter_le _ _
set_option maxHeartbeats 4000000 in
theorem specEra_any (v : Value) (s : St) (x : Int) (w : World) (hv : Rs w v s) (hf : fitS s) :
    Calls Try.prog 25 #[v, .int .i64 x] w fun r w' => (∃ u, r = .returned u ∧ ApE w' w.heap.size u (eraM s x)) ∧ Below w.heap.size w w' := by
  have ba : ∀ (w : World) o, Below w.heap.size w (w.alloc o) := fun w o => (Below.refl _ _).alloc (Nat.le_refl _) o
  have C1 := dHide fun W (hb : Below w.heap.size w W) => specStoreOk_any v s W (hv.below hb) hf
  obtain ⟨kv, lv, rfl, rk, rl⟩ := hv
  have HK := dHide fun W (hb : Below w.heap.size w W) => rk.below hb
  have hk9 := rk.1
  obtain ⟨-, ka, kc, rfl, -, -⟩ := rk
  obtain ⟨-, la, lc, rfl, -, -⟩ := rl
  have PB : Hid (¬ stP s → eraM s x = []) := fun h => if_neg h
  have PY : Hid (stP s → eraM s x = eraL s.kept x) := fun h => if_pos h
  generalize eraM s x = M at *
  clear hf
  have X0 := (BxZ.new w [.slice ka s.kept.length kc, .slice la s.late.length lc, .int .i64 s.lock] 26 (Nat.le_refl _)).bx.below (ba _ (.cells #[] 35))
  have B0 := belowThen (ba w (.cells #[.slice ka s.kept.length kc, .slice la s.late.length lc, .int .i64 s.lock] 26)) (ba _ (.cells #[] 35))
  have hs0 : Hid (w.heap.size + 1 ≤ ((w.alloc (.cells #[.slice ka s.kept.length kc, .slice la s.late.length lc, .int .i64 s.lock] 26)).alloc (.cells #[] 35)).heap.size) := by simp [Hid]
  by_cases hs : stP s
  · have HS := dHide hs
    have hkl : s.kept.length ≤ 200 := hs.1.1
    have eP := dUnhide PY hs
    subst eP
    clear PB PY hs
    go_enter Try.func25, Try.ntmps25
    go_wp2
    generalize (w.alloc (.cells #[.slice ka s.kept.length kc, .slice la s.late.length lc, .int .i64 s.lock] 26)).alloc (.cells #[] 35) = w0 at *
    go_loopw [5, 6] (fun o i wr => ∃ (k : Nat), i = .int .i64 (k : Int) ∧ k ≤ s.kept.length ∧ ApE wr (w.heap.size + 1) o (eraL (s.kept.take k) x) ∧ Bx wr w.heap.size [.slice ka s.kept.length kc, .slice la s.late.length lc, .int .i64 s.lock] ∧ Below w.heap.size w wr ∧ w.heap.size + 1 ≤ wr.heap.size) (fun _ i _ => s.kept.length - (intOf i).toNat)
    case atStart => exact ⟨0, rfl, Nat.zero_le _, .inl ⟨rfl, _, rfl⟩, X0, B0, dUnhide hs0⟩
    case round =>
      obtain ⟨k, rfl, hk, hap, hx, hb, hsz⟩ := hrel
      clear X0 B0 hs0
      have k0 := hx 0 _ rfl
      have k1 := hx 1 _ rfl
      have k2 := hx 2 _ rfl
      by_cases hlt : (k : Int) < (s.kept.length : Int)
      · have hkl' : k < s.kept.length := by omega
        have HT := dHide (List.take_succ_eq_append_getElem hkl')
        have hS : Hid (eraL (s.kept.take (k + 1)) x = if s.kept[k].pl / 4294967296 = x then eraL (s.kept.take k) x ++ [s.kept[k]] else eraL (s.kept.take k) x) := by rw [Hid, dUnhide HT, eraL_snoc]
        have hzl : (eraL (s.kept.take k) x).length ≤ 200 := by
          have := eraL_len (s.kept.take k) x
          rw [List.length_take] at this
          omega
        have hpl : isPl s.kept[k].pl := ((dUnhide HS).1.2 _ (List.getElem_mem hkl')).1
        have HC := dHide fun W (hB : Below w.heap.size w W) => (dUnhide HK W hB).ent hkl'
        have RE : Hid (∀ (w : World) T, Rw 4 Ent.cl (w.alloc (.cells #[.int .i64 s.kept[k].pl, .int .i64 s.kept[k].wave, .bool s.kept[k].hole, .string s.kept[k].data] T)) (.slice (some ⟨w.heap.size, 0, none⟩) 1 1) [s.kept[k]]) := fun w T => rw_one w s.kept[k] T 1 (by omega)
        have HC' : Hid (∃ b off, ka = some ⟨b, off, none⟩ ∧ ∀ W, Below w.heap.size w W → EntAt W b (off + k * 4) s.kept[k]) := by
          obtain ⟨b, off, e, -⟩ := dUnhide HC wr hb
          refine ⟨b, off, e, fun W hB => ?_⟩
          obtain ⟨b', off', e', hc'⟩ := dUnhide HC W hB
          rw [e] at e'
          cases e'
          exact hc' k hkl'
        obtain ⟨b, off, rfl, hc⟩ := dUnhide HC'
        have HCC := dHide hc
        generalize eraL (s.kept.take k) x = zs at *
        generalize s.kept[k] = y at *
        obtain ⟨yx, yw, yh, yd⟩ := y
        simp only at *
        obtain ⟨oa, oc, rfl⟩ := ApR.slice elemE hap
        clear hc HC HC' HT
        go_wp2_with fail
        refine (dUnhide C1 _ hb).mono ?_
        rintro r w1 ⟨hr1, b1⟩
        obtain rfl := hr1.of_yes (dUnhide HS)
        have hap1 := hap.below b1
        have hx1 := hx.below b1
        have hb1 := belowThen hb b1
        have hsz1 : w.heap.size + 1 ≤ w1.heap.size := by have := b1.size; omega
        obtain ⟨c0, c1, c2, c3⟩ := dUnhide HCC w1 hb1
        clear k0 k1 k2 hr1 b1 hap hx hb hsz
        have k0 := hx1 0 _ rfl
        have CE := dHide (flip (specEpoch_yes yx hpl w1))
        clear C1 HCC
        go_wp2_with fail
        refine (dUnhide CE).mono ?_
        rintro r w2 ⟨rfl, rfl⟩
        clear CE
        by_cases hxe : yx / 4294967296 = x
        · have eS := dHide ((dUnhide hS).trans (if_pos hxe))
          have d1 : (yx / 4294967296 == x) = true := by simp [hxe]
          clear hS hxe
          go_wp2_with (at_builtin; refine wp_apR elemE rfl _ _ rfl (w.heap.size + 1) (.slice oa zs.length oc) zs rfl (hap1.below (ba _ _)) _ [⟨yx, yw, yh, yd⟩] rfl (dUnhide RE _ _) ?c1 ?c2 ?c3 ?_)
          case c1 => (try simp); omega
          case c2 => (try simp); omega
          case c3 => (try simp); omega
          intro v3 w3 P3 g3 t3
          have hb3 := Below.grown (belowThen hb1 (ba _ _)) g3 (by simp; omega) (fun k hk => by have := (hap1.touched elemE hk).1; omega)
          have hx3 := Bx.grown (Bx.below hx1 (ba _ _)) g3 (fun e => by have := (hap1.touched elemE e).1; omega)
          have hsz3 : w.heap.size + 1 ≤ w3.heap.size := by have h1 := g3.size; simp at h1; omega
          clear g3 t3 hap1 hx1 hb1 hsz1 c0 c1 c2 c3 k0 RE
          go_wp2
          go_roundw
          case rel => exact ⟨k + 1, by go_num, by omega, by rw [dUnhide eS]; exact P3, hx3, hb3, hsz3⟩
          case measure => simp [intOf]; omega
        · have eS := dHide ((dUnhide hS).trans (if_neg hxe))
          have d1 : (yx / 4294967296 == x) = false := by simp [hxe]
          clear hS hxe RE
          go_wp2
          go_roundw
          case rel => exact ⟨k + 1, by go_num, by omega, by rw [dUnhide eS]; exact hap1, hx1, hb1, hsz1⟩
          case measure => simp [intOf]; omega
      · have e1 : s.kept.take k = s.kept := List.take_of_length_le (by omega)
        rw [e1] at hap
        have q := dHide (hap.mono (base' := w.heap.size) (by omega))
        obtain ⟨oa, oc, rfl⟩ := ApR.slice elemE hap
        clear e1 hap HK C1
        go_wp2
        go_ret
        exact ⟨⟨_, rfl, dUnhide q⟩, hb⟩
  · have HS := dHide hs
    have eP := dUnhide PB hs
    subst eP
    clear PB PY hs HK
    have q : Hid (∀ W a, ApE W w.heap.size (.slice a 0 0) []) := fun W a => .inl ⟨rfl, a, rfl⟩
    have k0 := X0 0 _ rfl
    have k1 := X0 1 _ rfl
    have k2 := X0 2 _ rfl
    have C1' := dHide (dUnhide C1 _ B0)
    clear X0
    by_cases h0 : (0 : Int) < (s.kept.length : Int)
    · go_enter Try.func25, Try.ntmps25
      go_wp2
      refine wp_loop_rounds 1 ?_
      rw [rounds_succ]
      go_wp2_with fail
      refine (dUnhide C1').mono ?_
      rintro r w1 ⟨hr1, b1⟩
      obtain rfl := hr1.of_no (dUnhide HS)
      have hb1 := belowThen B0 b1
      clear hr1 b1 C1 C1' k0 k1 k2
      go_wp2
      go_ret
      exact ⟨⟨_, rfl, dUnhide q _ _⟩, hb1⟩
    · go_enter Try.func25, Try.ntmps25
      go_wp2
      refine wp_loop_rounds 1 ?_
      rw [rounds_succ]
      go_wp2
      go_ret
      exact ⟨⟨_, rfl, dUnhide q _ _⟩, B0⟩
end Go.Proofs.Ytenpnnocdjakdaa
