/- Records as bytes: impl's ConfigRead. -/
import Derived.Test.YthndkkjgjhgdnaaDoorPuD
import Derived.Test.YthndkkjgjhgdnaaDoorPiB
namespace Go.Proofs.YthndkkjgjhgdnaaDoor
open Go.ChangeShapes Go.WideShapes Go.ChangeAt Go.RowKit
set_option linter.unusedVariables false
set_option linter.unusedSimpArgs false
set_option maxRecDepth 100000

/-- A config that is read, in new memory. -/
def OCfg (b : Nat) (m : List Int × Int) (u : Value) (W : World) : Prop := ∃ (ua : Option Addr) (c : Nat), u = .agg #[.slice ua m.1.length c, .int .i64 m.2] ∧ OwnN W b (.slice ua m.1.length c) m.1 ∧ 0 ≤ m.2 ∧ m.2 ≤ 9223372036854775807
theorem OCfg.far (b : Nat) (m : List Int × Int) (u : Value) : FarO b (OCfg b m u) := fun W W' ⟨ua, c, h1, h2, h3⟩ hs hk => ⟨ua, c, h1, OwnN.farO _ _ _ W W' h2 hs hk, h3⟩
theorem OCfg.mono (b b' : Nat) (m : List Int × Int) (u : Value) (W : World) (h : b ≤ b') : OCfg b' m u W → OCfg b m u W := fun ⟨ua, c, h1, h2, h3⟩ => ⟨ua, c, h1, h2.mono h, h3⟩
theorem OwnN.allInt {W : World} {b : Nat} {v : Value} {xs : List Int} (h : OwnN W b v xs) (hn : natI xs) : allInt xs := fun x hx => by have := hn x hx; omega
theorem rdK_nat (bs : List UInt8) (n q : Nat) (ok : Bool) (hq : q ≤ bs.length) : natI (rdK bs n q ok).1 := by
  induction n generalizing q ok with
  | zero => intro x hx; simp [rdK] at hx
  | succ n ih =>
    cases ok
    · intro x hx; simp [rdK] at hx
    · rw [rdK_succ]
      intro x hx
      have hs := rdN_step hq
      simp only [List.mem_cons] at hx
      rcases hx with rfl | hx
      · exact hs.1
      · exact ih _ _ hs.2.2.1 x hx
theorem rdL_nat (bs : List UInt8) (q : Nat) (ok : Bool) (hq : q ≤ bs.length) : natI (rdL bs q ok).1 := rdK_nat _ _ _ _ (rdN_le _ _ _ hq)
theorem rdN_mono17 {bs : List UInt8} {q : Nat} {ok : Bool} (hq : q ≤ bs.length) : q ≤ (rdN bs q ok).2.1 ∧ (rdN bs q ok).2.1 ≤ bs.length ∧ ((rdN bs q ok).2.2 = true → q + 1 ≤ (rdN bs q ok).2.1) := by
  cases ok
  · exact ⟨Nat.le_refl _, hq, fun h => by cases h⟩
  · exact (rdN_step hq).2
theorem rdK_len (bs : List UInt8) (n q : Nat) (ok : Bool) (hq : q ≤ bs.length) : (rdK bs n q ok).1.length ≤ bs.length + 1 - q := by
  induction n generalizing q ok with
  | zero => simp [rdK]
  | succ n ih =>
    cases ok
    · simp [rdK]
    · rw [rdK_succ]
      have hs := rdN_step hq
      simp only [List.length_cons]
      cases hk : (rdN bs q true).2.2 with
      | true =>
        have h1 := hs.2.2.2 hk
        have := ih (rdN bs q true).2.1 true hs.2.2.1
        omega
      | false =>
        rw [rdK_off]
        simp
        omega
theorem rdL_len (bs : List UInt8) (q : Nat) (ok : Bool) (hq : q ≤ bs.length) : (rdL bs q ok).1.length ≤ bs.length := by
  unfold rdL
  cases hk : (rdN bs q ok).2.2 with
  | false => rw [rdK_off]; simp
  | true =>
    have h1 := (rdN_mono17 (ok := ok) hq).2.2 hk
    have := rdK_len bs (rdN bs q ok).1.toNat (rdN bs q ok).2.1 true (rdN_le bs q ok hq)
    omega
theorem rdG_cfg (bs : List UInt8) : RdG (rdN bs (rdL bs 0 true).2.1 (rdL bs 0 true).2.2).2.2 (rdN bs (rdL bs 0 true).2.1 (rdL bs 0 true).2.2).2.1 bs.length (cfgP (rdL bs 0 true).1 (rdN bs (rdL bs 0 true).2.1 (rdL bs 0 true).2.2).1) ↔ (endB bs (rdN bs (rdL bs 0 true).2.1 (rdL bs 0 true).2.2).2.1 (rdN bs (rdL bs 0 true).2.1 (rdL bs 0 true).2.2).2.2 = true ∧ cfgP (rdL bs 0 true).1 (rdN bs (rdL bs 0 true).2.1 (rdL bs 0 true).2.2).1) := by
  unfold RdG endB
  generalize (rdN bs (rdL bs 0 true).2.1 (rdL bs 0 true).2.2).2.2 = ok
  generalize (rdN bs (rdL bs 0 true).2.1 (rdL bs 0 true).2.2).2.1 = q
  cases ok <;> simp <;> omega
set_option maxHeartbeats 4000000 in
theorem implConfigRead_any (v : Value) (bs : List UInt8) (w : World) (hH : Hnd w) (hv : Bs w v bs) (hl : bs.length ≤ 1048576) :
    Calls Tryd.prog 9 #[v] w fun e w' => (∃ u, e = .returned (.tuple #[.agg #[u, .int .i64 (cfgR bs).2.1], .bool (cfgR bs).2.2]) ∧ OwnN w' w.heap.size u (cfgR bs).1) ∧ Below w.heap.size w w' := by
  have ba : ∀ (w : World) o, Below w.heap.size w (w.alloc o) := fun w o => (Below.refl _ _).alloc (Nat.le_refl _) o
  have HV := dHide fun W (hb : Below w.heap.size w W) => hv.below hb
  have HH := dHide fun W (hb : Below w.heap.size w W) => hH.below hb (Nat.le_refl _)
  have hlt : ∀ W, Below w.heap.size w W → ∀ ab, w.heap.size ≤ ab → bs = [] ∨ blockOf v ≠ ab := fun W hb ab hab => by
    by_cases h : bs = []
    · exact .inl h
    · exact .inr (by have := hv.lt h; omega)
  have CF := dHide fun W => configForm_any W
  have hq1 := rdL_le bs 0 true (Nat.zero_le _)
  have hq2 := rdN_le bs (rdL bs 0 true).2.1 (rdL bs 0 true).2.2 hq1
  have hnat := rdL_nat bs 0 true (Nat.zero_le _)
  have CU : Hid (∀ W, Below w.heap.size w W → Calls Tryd.prog 27 #[.agg cfgForm.toArray, v] W fun e w' => ∃ (ua : Option Addr) (n c : Nat) (x : Int) (b : Bool), e = .returned (.tuple #[.agg #[.slice ua n c, .int .i64 x], .bool b]) ∧ UnPost (OCfg W.heap.size) (RdG (rdN bs (rdL bs 0 true).2.1 (rdL bs 0 true).2.2).2.2 (rdN bs (rdL bs 0 true).2.1 (rdL bs 0 true).2.2).2.1 bs.length (cfgP (rdL bs 0 true).1 (rdN bs (rdL bs 0 true).2.1 (rdL bs 0 true).2.2).1)) ((rdL bs 0 true).1, (rdN bs (rdL bs 0 true).2.1 (rdL bs 0 true).2.2).1) (.agg #[.slice none 0 0, .int .i64 0]) W (.agg #[.slice ua n c, .int .i64 x]) b w') := fun W hb => by
    have hvv : ∃ (va : Option Addr) (vn vcp : Nat), v = .slice va vn vcp := by
      obtain ⟨-, va, vcp, e, -⟩ := hv
      exact ⟨va, _, vcp, e⟩
    obtain ⟨va, vn, vcp, hvv⟩ := hvv
    refine unpackConfig v OCfg OCfg.far OCfg.mono _ _ W (dUnhide HH W hb) (fun W1 hb1 => ?_) va vn vcp hvv
    refine recordInConfig v bs OCfg OCfg.far OCfg.mono ((rdL bs 0 true).1, (rdN bs (rdL bs 0 true).2.1 (rdL bs 0 true).2.2).1) (fun m => cfgP m.1 m.2) (rdN bs (rdL bs 0 true).2.1 (rdL bs 0 true).2.2).2.1 (rdN bs (rdL bs 0 true).2.1 (rdL bs 0 true).2.2).2.2 W1 (dUnhide HV W1 (belowThen hb hb1)) hl (fun _ => hq2) (fun W2 ab hb2 hab hc => ?_) (fun W2 ua n c x hb2 hok ho => ?_)
    · refine (config_any ab v bs 0 true W2 hc (fun W3 hw3 => dUnhide HV W3 (hw3.below (belowThen (belowThen hb hb1) hb2) (by have := (belowThen (belowThen hb hb1) hb2).size; omega) (by have := (belowThen hb hb1).size; omega))) hl (Nat.zero_le _) (hlt W2 (belowThen (belowThen hb hb1) hb2) ab (by have := (belowThen hb hb1).size; omega))).mono ?_
      rintro e w' ⟨ua, n, c, x, m, rfl, ⟨rfl, rfl, h1, h2, h3⟩, h4, h5, h6⟩
      exact ⟨ua, _, c, _, m, rfl, ⟨ua, c, rfl, h1, h2, h3⟩, h4, h5, h6⟩
    · obtain ⟨ua', c', e, h1, h2, h3⟩ := ho
      rw [e]
      exact implCfg_any _ _ _ W2 h1.bs (h1.allInt hnat) (Nat.le_trans (rdL_len bs 0 true (Nat.zero_le _)) hl) (by omega) h3
  have EY : Hid (_ → _) := cfgR_yes bs
  have EN : Hid (_ → _) := cfgR_no bs
  have EG := dHide (rdG_cfg bs)
  rw [← dUnhide EG] at EY EN
  generalize RdG (rdN bs (rdL bs 0 true).2.1 (rdL bs 0 true).2.2).2.2 (rdN bs (rdL bs 0 true).2.1 (rdL bs 0 true).2.2).2.1 bs.length (cfgP (rdL bs 0 true).1 (rdN bs (rdL bs 0 true).2.1 (rdL bs 0 true).2.2).1) = G at *
  generalize cfgR bs = CR at *
  generalize (rdN bs (rdL bs 0 true).2.1 (rdL bs 0 true).2.2).1 = MC at *
  generalize (rdL bs 0 true).1 = ML at *
  have Z0 := BxZ.new w [.slice none 0 0, .int .i64 0] 26 (B := w.heap.size) (Nat.le_refl _)
  have B0 := ba w (.cells #[.slice none 0 0, .int .i64 0] 26)
  have hs0 : (w.alloc (.cells #[.slice none 0 0, .int .i64 0] 26)).heap.size = w.heap.size + 1 := by simp
  clear HV HH hlt hq1 hq2 hnat hv hH ba EG
  go_enter Tryd.func9, Tryd.ntmps9
  go_upto_region 1 with fail
  generalize w.alloc (.cells #[.slice none 0 0, .int .i64 0] 26) = w0 at *
  go_wp2_with fail
  refine (dUnhide CF _).mono ?_
  rintro e w1 ⟨rfl, b1⟩
  have B1 := belowThen B0 b1
  have Z1 := Z0.below b1
  have hs1 := b1.size
  have C1 := dHide (dUnhide CU w1 B1)
  clear CF CU Z0 B0 b1
  unfold cfgForm at *
  go_wp2_with fail
  refine (dUnhide C1).mono ?_
  rintro e w2 ⟨ua, n, c, x, b, rfl, hy, hn, b2⟩
  have B2 := belowThen B1 b2
  have Z2 := Z1.below b2
  obtain ⟨z0, y0⟩ := Z2.2 0 _ rfl
  obtain ⟨z1, y1⟩ := Z2.2 1 _ rfl
  have FZ := dHide (And.intro ((Z2.put 0 (.slice ua n c)).put 1 (.int .i64 x)) (Below.setCell (p := ⟨w.heap.size, 1, none⟩) (Below.setCell (p := ⟨w.heap.size, 0, none⟩) B2 (by simp only; omega) (.slice ua n c)) (by simp only; omega) (.int .i64 x)))
  have HY := dHide hy
  have HN := dHide hn
  clear C1 Z1 Z2 B1 B2 b2 hy hn
  go_wp2
  have fin := dUnhide FZ
  have HO : ∀ xs, OwnN w2 w1.heap.size (.slice ua n c) xs → OwnN ((w2.setCell ⟨w.heap.size, 0, none⟩ (.slice ua n c)).setCell ⟨w.heap.size, 1, none⟩ (.int .i64 x)) w.heap.size (.slice ua n c) xs := fun xs h => ((h.far (b := w.heap.size) (o := 0) (by omega) _).far (b := w.heap.size) (o := 1) (by omega) _).mono (by omega)
  generalize (w2.setCell ⟨w.heap.size, 0, none⟩ (.slice ua n c)).setCell ⟨w.heap.size, 1, none⟩ (.int .i64 x) = V at *
  obtain ⟨r, bb⟩ := fin
  have q0 := (r.2 0 _ rfl).1
  have q1 := (r.2 1 _ rfl).1
  refine bodyPost_ret (v := .tuple #[.agg #[.slice ua n c, .int .i64 x], .bool b]) (by simp [results, Tryd.results9, go_sem, q0, q1]) rfl ?_
  by_cases hG : G
  · obtain ⟨rfl, ua', c', e, h1, h2, h3⟩ := dUnhide HY hG
    have eC := dUnhide EY hG
    subst eC
    simp only [Value.agg.injEq, Array.mk.injEq, List.cons.injEq, Value.slice.injEq, Value.int.injEq, true_and, and_true] at e
    obtain ⟨⟨rfl, rfl, rfl⟩, rfl⟩ := e
    exact ⟨⟨_, rfl, HO _ h1⟩, bb⟩
  · obtain ⟨rfl, e⟩ := dUnhide HN hG
    have eC := dUnhide EN hG
    subst eC
    simp only [Value.agg.injEq, Array.mk.injEq, List.cons.injEq, Value.slice.injEq, Value.int.injEq, true_and, and_true] at e
    obtain ⟨⟨rfl, rfl, rfl⟩, rfl⟩ := e
    exact ⟨⟨_, rfl, by simp, _, _, rfl, by simp, .inl rfl⟩, bb⟩
end Go.Proofs.YthndkkjgjhgdnaaDoor
