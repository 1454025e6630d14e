/- spec's l6Keep. -/
import Derived.Test.YtejmfohkobhidaaStE
namespace Go.Proofs.Ytejmfohkobhidaa
open Go.ChangeShapes Go.WideShapes Go.ChangeAt Go.RowKit
set_option linter.unusedVariables false
set_option linter.unusedSimpArgs false
set_option maxRecDepth 100000

theorem keepL_yes {e x : Ent} {l : List Ent} (h : ∃ a ∈ l, ¬ a.pl < e.pl) : keepL e (l ++ [x]) = keepL e l ++ [x] := by
  induction l with
  | nil => obtain ⟨a, ha, -⟩ := h; cases ha
  | cons c l ih =>
    rw [List.cons_append]
    unfold keepL
    by_cases h1 : c.pl = e.pl
    · rw [if_pos h1, if_pos h1]; rfl
    · rw [if_neg h1, if_neg h1]
      by_cases h2 : e.pl < c.pl
      · rw [if_pos h2, if_pos h2]; rfl
      · rw [if_neg h2, if_neg h2, ih ?_]
        · rfl
        · obtain ⟨a, ha, hn⟩ := h
          rcases List.mem_cons.1 ha with rfl | ha
          · omega
          · exact ⟨a, ha, hn⟩
theorem keepL_all {e : Ent} {l : List Ent} (h : ∀ a ∈ l, a.pl < e.pl) (r : List Ent) : keepL e (l ++ r) = l ++ keepL e r := by
  induction l with
  | nil => rfl
  | cons c l ih =>
    have hc := h c (by simp)
    rw [List.cons_append]
    conv => lhs; unfold keepL
    rw [if_neg (by omega), if_neg (by omega), ih fun a ha => h a (by simp [ha])]
    rfl
/-- Where a keep stands: whether e is in, and what is out. -/
def KeepAt (e : Ent) (l zs : List Ent) (p : Bool) : Prop := (p = true → (∃ a ∈ l, ¬ a.pl < e.pl) ∧ zs = keepL e l) ∧ (p = false → (∀ a ∈ l, a.pl < e.pl) ∧ zs = l)
theorem KeepAt.same {e x : Ent} {l zs : List Ent} (h : KeepAt e l zs false) (hx : x.pl = e.pl) : KeepAt e (l ++ [x]) (zs ++ [better x e]) true := by
  obtain ⟨h1, rfl⟩ := h.2 rfl
  refine ⟨fun _ => ⟨⟨x, by simp, by omega⟩, ?_⟩, fun h => by cases h⟩
  rw [keepL_all h1]
  unfold keepL
  rw [if_pos hx]
theorem KeepAt.ahead {e x : Ent} {l zs : List Ent} (h : KeepAt e l zs false) (hx : e.pl < x.pl) : KeepAt e (l ++ [x]) (zs ++ [e] ++ [x]) true := by
  obtain ⟨h1, rfl⟩ := h.2 rfl
  refine ⟨fun _ => ⟨⟨x, by simp, by omega⟩, ?_⟩, fun h => by cases h⟩
  rw [keepL_all h1]
  unfold keepL
  rw [if_neg (by omega), if_pos hx]
  simp
theorem KeepAt.on {e x : Ent} {l zs : List Ent} {p : Bool} (h : KeepAt e l zs p) (hx : p = true ∨ x.pl < e.pl) : KeepAt e (l ++ [x]) (zs ++ [x]) p := by
  cases p
  · obtain ⟨h1, rfl⟩ := h.2 rfl
    have hx : x.pl < e.pl := by rcases hx with h | h; cases h; exact h
    refine ⟨(fun h => by cases h), fun _ => ⟨fun a ha => ?_, rfl⟩⟩
    rcases List.mem_append.1 ha with ha | ha
    · exact h1 a ha
    · rw [List.mem_singleton.1 ha]; exact hx
  · obtain ⟨⟨a, ha, hn⟩, rfl⟩ := h.1 rfl
    exact ⟨fun _ => ⟨⟨a, by simp [ha], hn⟩, by rw [keepL_yes ⟨a, ha, hn⟩]⟩, fun h => by cases h⟩
theorem KeepAt.len {e : Ent} {l zs : List Ent} {p : Bool} (h : KeepAt e l zs p) : zs.length ≤ l.length + 1 := by
  cases p
  · rw [(h.2 rfl).2]; omega
  · rw [(h.1 rfl).2]; exact (keepL_len e l).1
set_option maxHeartbeats 8000000 in
theorem l6Keep_any (v : Value) (es : List Ent) (e : Ent) (w : World) (hv : Rw 4 Ent.cl w v es) (hl : es.length ≤ 1048576) :
    Calls Try.prog 46 #[v, e.val] w fun r w' => (∃ u, r = .returned u ∧ ApE w' w.heap.size u (keepL e es)) ∧ Below w.heap.size w w' := by
  have ba : ∀ (w : World) o, Below w.heap.size w (w.alloc o) := fun w o => (Below.refl _ _).alloc (Nat.le_refl _) o
  have HV := dHide fun W (hb : Below w.heap.size w W) => hv.below hb
  obtain ⟨h0, a, cap, rfl, -, -⟩ := hv
  have RO : Hid (∀ (w : World) T, Rw 4 Ent.cl (w.alloc (.cells #[.int .i64 e.pl, .int .i64 e.wave, .bool e.hole, .string e.data] T)) (.slice (some ⟨w.heap.size, 0, none⟩) 1 1) [e]) := fun w T => rw_one w e T 1 (by omega)
  have CB := dHide fun (x : Ent) W => specBetter_any x e W
  obtain ⟨x, wv, ho, d⟩ := e
  unfold Ent.val at *
  simp only at *
  have X0 := (BxZ.new w [.int .i64 x, .int .i64 wv, .bool ho, .string d] 28 (Nat.le_refl _)).bx.below (ba _ (.cells #[] 28))
  have B0 := belowThen (ba w (.cells #[.int .i64 x, .int .i64 wv, .bool ho, .string d] 28)) (ba _ (.cells #[] 28))
  have hs0 : Hid (w.heap.size + 1 ≤ ((w.alloc (.cells #[.int .i64 x, .int .i64 wv, .bool ho, .string d] 28)).alloc (.cells #[] 28)).heap.size) := by simp [Hid]
  go_enter Try.func46, Try.ntmps46
  go_wp2
  generalize (w.alloc (.cells #[.int .i64 x, .int .i64 wv, .bool ho, .string d] 28)).alloc (.cells #[] 28) = w0 at *
  go_loopw [5, 6, 7] (fun o q i wr => ∃ (k : Nat) (p : Bool) (zs : List Ent), i = .int .i64 (k : Int) ∧ q = .bool p ∧ k ≤ es.length ∧ ApE wr (w.heap.size + 1) o zs ∧ Hid (KeepAt ⟨x, wv, ho, d⟩ (es.take k) zs p) ∧ Bx wr w.heap.size [.int .i64 x, .int .i64 wv, .bool ho, .string d] ∧ Below w.heap.size w wr ∧ w.heap.size + 1 ≤ wr.heap.size) (fun _ _ i _ => es.length - (intOf i).toNat)
  case atStart => exact ⟨0, false, [], rfl, rfl, Nat.zero_le _, .inl ⟨rfl, _, rfl⟩, ⟨(fun h => by cases h), fun _ => ⟨(fun b h => by simp at h), by simp⟩⟩, X0, B0, dUnhide hs0⟩
  case round =>
    obtain ⟨k, p, zs, rfl, rfl, hk, hap, hka, hx, hb, hsz⟩ := hrel
    clear X0 B0 hs0
    have y0 := hx 0 _ rfl
    have y1 := hx 1 _ rfl
    have y2 := hx 2 _ rfl
    have y3 := hx 3 _ rfl
    have hzl : zs.length ≤ es.length + 1 := by
      have := (dUnhide hka).len
      rw [List.length_take] at this
      omega
    obtain ⟨oa, oc, rfl⟩ := ApR.slice elemE hap
    by_cases hlt : (k : Int) < (es.length : Int)
    · have hkl : k < es.length := by omega
      have HT := dHide (List.take_succ_eq_append_getElem hkl)
      obtain ⟨b, off, rfl, hc⟩ := (dUnhide HV wr hb).ent hkl
      obtain ⟨c0, c1, c2, c3⟩ := hc k hkl
      have HC := dHide fun W (hB : Below w.heap.size w W) => by
        obtain ⟨b', off', e', hc'⟩ := (dUnhide HV W hB).ent hkl
        cases e'
        exact hc' k hkl
      have RE : Hid (∀ (w : World) T, Rw 4 Ent.cl (w.alloc (.cells #[.int .i64 es[k].pl, .int .i64 es[k].wave, .bool es[k].hole, .string es[k].data] T)) (.slice (some ⟨w.heap.size, 0, none⟩) 1 1) [es[k]]) := fun w T => rw_one w es[k] T 1 (by omega)
      generalize es[k] = y at *
      obtain ⟨yx, yw, yh, yd⟩ := y
      simp only at *
      clear hc HV
      have K : Hid (∀ W, Below wr.heap.size wr W → ApE W (w.heap.size + 1) (.slice oa zs.length oc) zs ∧ Bx W w.heap.size [.int .i64 x, .int .i64 wv, .bool ho, .string d] ∧ Below w.heap.size w W ∧ w.heap.size + 1 ≤ wr.heap.size) := fun W hB => ⟨hap.below hB, hx.below hB, belowThen hb hB, hsz⟩
      clear hap hx hb hsz
      cases p
      · rcases Int.lt_trichotomy yx x with h1 | h1 | h1
        · have d1 : (yx == x) = false := by simp; omega
          have d2 : decide (x < yx) = false := decide_eq_false (by omega)
          have HK : Hid (KeepAt ⟨x, wv, ho, d⟩ (es.take (k + 1)) (zs ++ [⟨yx, yw, yh, yd⟩]) false) := by rw [Hid, dUnhide HT]; exact (dUnhide hka).on (.inr h1)
          clear hka HT
          go_wp2
          go_quiet (fail)
          go_wp2
          go_quiet (fail)
          go_wp2_with (at_builtin; refine wp_apR elemE rfl _ _ rfl (w.heap.size + 1) (.slice oa zs.length oc) zs rfl (ApR.below (dUnhide K _ (by first | exact Below.refl _ _ | exact below_drewN (Below.refl _ _) _ | exact below_drewN (below_drewN (Below.refl _ _) _) _)).1 (ba _ _)) _ [⟨yx, yw, yh, yd⟩] rfl (dUnhide RE _ _) ?c1 ?c2 ?c3 ?_)
          case c1 => (try simp); omega
          case c2 => (try simp); omega
          case c3 => have := (dUnhide K _ (Below.refl _ _)).2.2.2; (try simp); omega
          intro v2 w2 P2 g2 t2
          have hb2 := Below.grown (belowThen (dUnhide K _ (by first | exact Below.refl _ _ | exact below_drewN (Below.refl _ _) _ | exact below_drewN (below_drewN (Below.refl _ _) _) _)).2.2.1 (ba _ _)) g2 (by have := (dUnhide K _ (Below.refl _ _)).2.2.2; simp; omega) (fun k hk => by have := ((dUnhide K _ (Below.refl _ _)).1.touched elemE hk).1; omega)
          have hx2 := Bx.grown (Bx.below (dUnhide K _ (by first | exact Below.refl _ _ | exact below_drewN (Below.refl _ _) _ | exact below_drewN (below_drewN (Below.refl _ _) _) _)).2.1 (ba _ _)) g2 (fun e => by have := ((dUnhide K _ (Below.refl _ _)).1.touched elemE e).1; omega)
          have hsz2 : w.heap.size + 1 ≤ w2.heap.size := by have h1 := g2.size; have h2 := (dUnhide K _ (Below.refl _ _)).2.2.2; simp at h1; omega
          clear K c0 c1 c2 c3 y0 y1 y2 y3 HC
          clear g2 t2
          go_wp2
          go_roundw
          case rel => exact ⟨k + 1, false, zs ++ [⟨yx, yw, yh, yd⟩], by go_num, rfl, by omega, by simpa using P2, by simpa using HK, hx2, hb2, hsz2⟩
          case measure => simp [intOf]; omega
        · have d1 : (yx == x) = true := by simp; omega
          have HK : Hid (KeepAt ⟨x, wv, ho, d⟩ (es.take (k + 1)) (zs ++ [better ⟨yx, yw, yh, yd⟩ ⟨x, wv, ho, d⟩]) true) := by rw [Hid, dUnhide HT]; exact (dUnhide hka).same h1
          clear h1
          have CY := dHide (dUnhide CB ⟨yx, yw, yh, yd⟩)
          have RB : Hid (∀ (w : World) T, Rw 4 Ent.cl (w.alloc (.cells #[.int .i64 (better ⟨yx, yw, yh, yd⟩ ⟨x, wv, ho, d⟩).pl, .int .i64 (better ⟨yx, yw, yh, yd⟩ ⟨x, wv, ho, d⟩).wave, .bool (better ⟨yx, yw, yh, yd⟩ ⟨x, wv, ho, d⟩).hole, .string (better ⟨yx, yw, yh, yd⟩ ⟨x, wv, ho, d⟩).data] T)) (.slice (some ⟨w.heap.size, 0, none⟩) 1 1) [better ⟨yx, yw, yh, yd⟩ ⟨x, wv, ho, d⟩]) := fun w T => rw_one w (better ⟨yx, yw, yh, yd⟩ ⟨x, wv, ho, d⟩) T 1 (by omega)
          generalize better ⟨yx, yw, yh, yd⟩ ⟨x, wv, ho, d⟩ = be at *
          obtain ⟨bx, bw, bh, bd⟩ := be
          simp only at *
          clear hka HT CB
          go_wp2
          go_quiet (fail)
          go_wp2
          generalize hwq : wr.drewN _ = wq at *
          have hbq : Below wr.heap.size wr wq := by rw [← hwq]; exact below_drewN (Below.refl _ _) _
          have KQ : Hid (∀ W, Below wq.heap.size wq W → ApE W (w.heap.size + 1) (.slice oa zs.length oc) zs ∧ Bx W w.heap.size [.int .i64 x, .int .i64 wv, .bool ho, .string d] ∧ Below w.heap.size w W ∧ w.heap.size + 1 ≤ wq.heap.size ∧ EntAt W b (off + k * 4) ⟨yx, yw, yh, yd⟩) := fun W hB => by
            obtain ⟨q1, q2, q3, q4⟩ := dUnhide K W (belowThen hbq hB)
            exact ⟨q1, q2, q3, by have := hbq.size; omega, dUnhide HC W q3⟩
          have HC2 : Hid (∀ W, Below w.heap.size w W → W.cell? ⟨b, off + k * 4, none⟩ = some (.int .i64 yx) ∧ W.cell? ⟨b, off + k * 4 + 1, none⟩ = some (.int .i64 yw) ∧ W.cell? ⟨b, off + k * 4 + 2, none⟩ = some (.bool yh) ∧ W.cell? ⟨b, off + k * 4 + 3, none⟩ = some (.string yd)) := fun W hB => dUnhide HC W hB
          clear K HC c0 c1 c2 c3 y0 y1 y2 y3 hbq hwq
          obtain ⟨-, s2, -, s4, ⟨c0, c1, c2, c3⟩⟩ := dUnhide KQ wq (Below.refl _ _)
          have y0 := s2 0 _ rfl
          have y1 := s2 1 _ rfl
          have y2 := s2 2 _ rfl
          have y3 := s2 3 _ rfl
          clear s2
          have hbr : Below wq.heap.size wq wq.drew := (Below.refl _ _).drew
          refine wp_region_noPanic ?_
          refine wp_region_held_drew (S := (fun W => (W.cell? ⟨w.heap.size, 0, none⟩ = some (.int .i64 x) ∧ W.cell? ⟨w.heap.size, 1, none⟩ = some (.int .i64 wv) ∧ W.cell? ⟨w.heap.size, 2, none⟩ = some (.bool ho) ∧ W.cell? ⟨w.heap.size, 3, none⟩ = some (.string d)) ∧ W.cell? ⟨b, off + k * 4, none⟩ = some (.int .i64 yx) ∧ W.cell? ⟨b, off + k * 4 + 1, none⟩ = some (.int .i64 yw) ∧ W.cell? ⟨b, off + k * 4 + 2, none⟩ = some (.bool yh) ∧ W.cell? ⟨b, off + k * 4 + 3, none⟩ = some (.string yd))) (by kernel_rfl) ?_ (fun hHeld => ?_)
          · go_keep
          refine wpAnyH_take (i := 0) (oi := { dst := some 27, op := Op.move (Operand.tmp 5), type := 24, pos := "l06_store.go:60", after := #[], guard := none }) (v := ?_) rfl (by kernel_rfl) (by kernel_rfl) (by kernel_rfl) (fun _ _ _ h => h) (Or.inl ⟨by rfl, ?_⟩) (by assumption) ?_
          rotate_left 1
          · intro w hSw
            (try dsimp only at hSw)
            first | (go_simp; done) | (go_simp; with_reducible rfl)
          try simp only [Act.put, List.setIfInBounds_toArray, List.set_cons_zero, List.set_cons_succ]
          refine wpAnyH_take (i := 1) (oi := { dst := some 28, op := Op.move (Operand.tmp 0), type := 24, pos := "l06_store.go:60", after := #[], guard := none }) (v := ?_) rfl (by kernel_rfl) (by kernel_rfl) (by kernel_rfl) (fun _ _ _ h => h) (Or.inl ⟨by rfl, ?_⟩) (by assumption) ?_
          rotate_left 1
          · intro w hSw
            (try dsimp only at hSw)
            first | (go_simp; done) | (go_simp; with_reducible rfl)
          try simp only [Act.put, List.setIfInBounds_toArray, List.set_cons_zero, List.set_cons_succ]
          refine wpAnyH_take (i := 2) (oi := { dst := some 29, op := Op.move (Operand.tmp 7), type := 3, pos := "l06_store.go:60", after := #[], guard := none }) (v := ?_) rfl (by kernel_rfl) (by kernel_rfl) (by kernel_rfl) (fun _ _ _ h => h) (Or.inl ⟨by rfl, ?_⟩) (by assumption) ?_
          rotate_left 1
          · intro w hSw
            (try dsimp only at hSw)
            first | (go_simp; done) | (go_simp; with_reducible rfl)
          try simp only [Act.put, List.setIfInBounds_toArray, List.set_cons_zero, List.set_cons_succ]
          refine wpAnyH_take (i := 3) (oi := { dst := some 30, op := Op.indexAddr 24 (Operand.tmp 28) (Operand.tmp 29), type := 0, pos := "l06_store.go:60", after := #[{ on := 1, ground := Ground.data }, { on := 2, ground := Ground.data }], guard := none }) (v := ?_) rfl (by kernel_rfl) (by kernel_rfl) (by kernel_rfl) (fun _ _ _ h => h) (Or.inl ⟨by rfl, ?_⟩) (by assumption) ?_
          rotate_left 1
          · intro w hSw
            (try dsimp only at hSw)
            first | (go_simp; done) | (go_simp; with_reducible rfl)
          try simp only [Act.put, List.setIfInBounds_toArray, List.set_cons_zero, List.set_cons_succ]
          refine wpAnyH_take (i := 4) (oi := { dst := some 31, op := Op.load 28 (Operand.tmp 30), type := 28, pos := "l06_store.go:60", after := #[{ on := 3, ground := Ground.data }], guard := none }) (v := ?_) rfl (by kernel_rfl) (by kernel_rfl) (by kernel_rfl) (fun _ _ _ h => h) (Or.inl ⟨by rfl, ?_⟩) (by assumption) ?_
          rotate_left 1
          · intro w hSw
            (try dsimp only at hSw)
            first | (go_simp; done) | (go_simp; with_reducible rfl)
          try simp only [Act.put, List.setIfInBounds_toArray, List.set_cons_zero, List.set_cons_succ]
          refine wpAnyH_take (i := 5) (oi := { dst := some 32, op := Op.load 28 (Operand.tmp 3), type := 28, pos := "l06_store.go:60", after := #[], guard := none }) (v := ?_) rfl (by kernel_rfl) (by kernel_rfl) (by kernel_rfl) (fun _ _ _ h => h) (Or.inl ⟨by rfl, ?_⟩) (by assumption) ?_
          rotate_left 1
          · intro w hSw
            (try dsimp only at hSw)
            first | (go_simp; done) | (go_simp; with_reducible rfl)
          try simp only [Act.put, List.setIfInBounds_toArray, List.set_cons_zero, List.set_cons_succ]
          refine wpAnyH_ready (rs := [6]) (by kernel_rfl) (by simp) ?_
          refine AllReadyH.cons (o := { dst := some 33, op := Op.call { callee := Callee.value (Operand.func 78), args := #[Operand.tmp 31, Operand.tmp 32], argTypes := #[28, 28] }, type := 28, pos := "l06_store.go:60", after := #[{ on := 4, ground := Ground.data }, { on := 5, ground := Ground.data }], guard := none }) rfl (fun K hK => ?_) AllReadyH.nil
          go_simp
          refine (dUnhide CY _).mono ?_
          rintro r w5 ⟨rfl, b5⟩
          have hb5 := belowThen hbr b5
          obtain ⟨P5, X5, B5, -, MM⟩ := dUnhide KQ w5 hb5
          have HX5 := dHide X5
          have HB5 := dHide B5
          have HP5 := dHide P5
          have HM5 := dHide MM
          clear X5 B5 P5 MM
          (try go_wp2_with fail)
          refine hK.out _ _ ?_ (fun hHeld => ?_)
          · exact ⟨⟨dUnhide HX5 0 _ rfl, dUnhide HX5 1 _ rfl, dUnhide HX5 2 _ rfl, dUnhide HX5 3 _ rfl⟩, dUnhide HM5⟩
          clear hK K
          try simp only [Act.put, List.setIfInBounds_toArray, List.set_cons_zero, List.set_cons_succ]
          refine wpAnyH_ready (rs := [7]) (by kernel_rfl) (by simp) ?_
          refine AllReadyH.cons (o := { dst := some 34, op := Op.buildSlice 24 1 #[(0, Operand.tmp 33)], type := 24, pos := "l06_store.go:60", after := #[{ on := 6, ground := Ground.data }], guard := none }) rfl (fun K hK => ?_) AllReadyH.nil
          go_simp
          have hb57 := belowThen hb5 (ba w5 (.cells #[.int .i64 bx, .int .i64 bw, .bool bh, .string bd] 28))
          (try go_wp2_with fail)
          refine hK.out _ _ ?_ (fun hHeld => ?_)
          · obtain ⟨-, X7, -, -, M7⟩ := dUnhide KQ _ hb57
            exact ⟨⟨X7 0 _ rfl, X7 1 _ rfl, X7 2 _ rfl, X7 3 _ rfl⟩, M7⟩
          clear hK K
          try simp only [Act.put, List.setIfInBounds_toArray, List.set_cons_zero, List.set_cons_succ]
          refine wpAnyH_ready (rs := [8]) (by kernel_rfl) (by simp) ?_
          refine AllReadyH.cons (o := { dst := some 35, op := Op.call { callee := Callee.builtin Builtin.append, args := #[Operand.tmp 27, Operand.tmp 34], argTypes := #[24, 24] }, type := 24, pos := "l06_store.go:60", after := #[{ on := 0, ground := Ground.data }, { on := 7, ground := Ground.data }, { on := 6, ground := Ground.chain }], guard := none }) rfl (fun K hK => ?_) AllReadyH.nil
          refine step_apR elemE rfl _ _ rfl (w.heap.size + 1) (.slice oa zs.length oc) zs rfl ((dUnhide HP5).below (ba _ _)) _ [⟨bx, bw, bh, bd⟩] rfl (dUnhide RB _ _) (by simp; omega) (by simp; omega) (by have := hb5.size; simp; omega) ?_
          intro v6 w6 P6 g6 t6
          have hb6 := Below.grown (belowThen (dUnhide HB5) (ba _ _)) g6 (by have := hb5.size; simp; omega) (fun k hk => by have := ((dUnhide HP5).touched elemE hk).1; omega)
          have hx6 := Bx.grown (Bx.below (dUnhide HX5) (ba _ _)) g6 (fun e => by have := ((dUnhide HP5).touched elemE e).1; omega)
          have hsz6 : w.heap.size + 1 ≤ w6.heap.size := by have h1 := g6.size; have := hb5.size; simp at h1; omega
          refine hK.out _ _ ?_ (fun hHeld => ?_)
          · exact ⟨⟨hx6 0 _ rfl, hx6 1 _ rfl, hx6 2 _ rfl, hx6 3 _ rfl⟩, dUnhide HC2 w6 hb6⟩
          clear hK K
          try simp only [Act.put, List.setIfInBounds_toArray, List.set_cons_zero, List.set_cons_succ]
          refine wpAnyH_take (i := 9) (oi := { dst := some 5, op := Op.assign (Operand.tmp 35), type := 24, pos := "l06_store.go:60", after := #[{ on := 8, ground := Ground.data }, { on := 8, ground := Ground.chain }, { on := 0, ground := Ground.phase }, { on := 1, ground := Ground.phase }, { on := 2, ground := Ground.phase }, { on := 3, ground := Ground.phase }, { on := 4, ground := Ground.phase }, { on := 5, ground := Ground.phase }, { on := 6, ground := Ground.phase }, { on := 7, ground := Ground.phase }, { on := 8, ground := Ground.phase }], guard := none }) (v := ?_) rfl (by kernel_rfl) (by kernel_rfl) (by kernel_rfl) (fun _ _ _ h => h) (Or.inl ⟨by rfl, ?_⟩) (by assumption) ?_
          rotate_left 1
          · intro w hSw
            (try dsimp only at hSw)
            first | (go_simp; done) | (go_simp; with_reducible rfl)
          try simp only [Act.put, List.setIfInBounds_toArray, List.set_cons_zero, List.set_cons_succ]
          refine wpAnyH_done (by kernel_rfl) ?_ _
          refine NoPanic.normal ?_
          go_wp2
          go_roundw
          case rel => exact ⟨k + 1, true, zs ++ [⟨bx, bw, bh, bd⟩], by go_num, rfl, by omega, by simpa using P6, HK, hx6, hb6, hsz6⟩
          case measure => simp [intOf]; omega
        · have d1 : (yx == x) = false := by simp; omega
          have d2 : decide (x < yx) = true := decide_eq_true (by omega)
          have HK : Hid (KeepAt ⟨x, wv, ho, d⟩ (es.take (k + 1)) (zs ++ [⟨x, wv, ho, d⟩] ++ [⟨yx, yw, yh, yd⟩]) true) := by rw [Hid, dUnhide HT]; exact (dUnhide hka).ahead h1
          clear hka HT
          go_wp2
          go_quiet (fail)
          go_wp2
          go_quiet (fail)
          go_wp2_with (at_builtin; refine wp_apR elemE rfl _ _ rfl (w.heap.size + 1) (.slice oa zs.length oc) zs rfl (ApR.below (dUnhide K _ (by first | exact Below.refl _ _ | exact below_drewN (Below.refl _ _) _ | exact below_drewN (below_drewN (Below.refl _ _) _) _)).1 (ba _ _)) _ [⟨x, wv, ho, d⟩] rfl (dUnhide RO _ _) ?c1 ?c2 ?c3 ?_)
          case c1 => (try simp); omega
          case c2 => (try simp); omega
          case c3 => have := (dUnhide K _ (Below.refl _ _)).2.2.2; (try simp); omega
          intro v2 w2 P2 g2 t2
          have hb2 := Below.grown (belowThen (dUnhide K _ (by first | exact Below.refl _ _ | exact below_drewN (Below.refl _ _) _ | exact below_drewN (below_drewN (Below.refl _ _) _) _)).2.2.1 (ba _ _)) g2 (by have := (dUnhide K _ (Below.refl _ _)).2.2.2; simp; omega) (fun k hk => by have := ((dUnhide K _ (Below.refl _ _)).1.touched elemE hk).1; omega)
          have hx2 := Bx.grown (Bx.below (dUnhide K _ (by first | exact Below.refl _ _ | exact below_drewN (Below.refl _ _) _ | exact below_drewN (below_drewN (Below.refl _ _) _) _)).2.1 (ba _ _)) g2 (fun e => by have := ((dUnhide K _ (Below.refl _ _)).1.touched elemE e).1; omega)
          have hsz2 : w.heap.size + 1 ≤ w2.heap.size := by have h1 := g2.size; have h2 := (dUnhide K _ (Below.refl _ _)).2.2.2; simp at h1; omega
          obtain ⟨pa, pc, rfl⟩ := ApR.slice elemE P2
          obtain ⟨e0, e1, e2, e3⟩ := dUnhide HC w2 hb2
          generalize hL : zs ++ [(⟨x, wv, ho, d⟩ : Ent)] = zs2 at *
          have hz2 : zs2.length ≤ es.length + 2 := by rw [← hL]; simp; omega
          clear hL
          have K2 : Hid (∀ W, Below w2.heap.size w2 W → ApE W (w.heap.size + 1) (.slice pa zs2.length pc) zs2 ∧ Bx W w.heap.size [.int .i64 x, .int .i64 wv, .bool ho, .string d] ∧ Below w.heap.size w W ∧ w.heap.size + 1 ≤ w2.heap.size) := fun W hB => ⟨P2.below hB, hx2.below hB, belowThen hb2 hB, hsz2⟩
          clear K c0 c1 c2 c3 y0 y1 y2 y3 HC g2 t2 P2 hb2 hx2 hsz2
          go_wp2_with (at_builtin; refine wp_apR elemE rfl _ _ rfl (w.heap.size + 1) (.slice pa zs2.length pc) zs2 rfl (ApR.below (dUnhide K2 _ (by first | exact Below.refl _ _ | exact below_drewN (Below.refl _ _) _ | exact below_drewN (below_drewN (Below.refl _ _) _) _)).1 (ba _ _)) _ [⟨yx, yw, yh, yd⟩] rfl (dUnhide RE _ _) ?c1 ?c2 ?c3 ?_)
          case c1 => (try simp); omega
          case c2 => (try simp); omega
          case c3 => have := (dUnhide K2 _ (Below.refl _ _)).2.2.2; (try simp); omega
          intro v3 w3 P3 g3 t3
          have hb3 := Below.grown (belowThen (dUnhide K2 _ (by first | exact Below.refl _ _ | exact below_drewN (Below.refl _ _) _ | exact below_drewN (below_drewN (Below.refl _ _) _) _)).2.2.1 (ba _ _)) g3 (by have := (dUnhide K2 _ (Below.refl _ _)).2.2.2; simp; omega) (fun k hk => by have := ((dUnhide K2 _ (Below.refl _ _)).1.touched elemE hk).1; omega)
          have hx3 := Bx.grown (Bx.below (dUnhide K2 _ (by first | exact Below.refl _ _ | exact below_drewN (Below.refl _ _) _ | exact below_drewN (below_drewN (Below.refl _ _) _) _)).2.1 (ba _ _)) g3 (fun e => by have := ((dUnhide K2 _ (Below.refl _ _)).1.touched elemE e).1; omega)
          have hsz3 : w.heap.size + 1 ≤ w3.heap.size := by have h1 := g3.size; have h2 := (dUnhide K2 _ (Below.refl _ _)).2.2.2; simp at h1; omega
          clear K2 e0 e1 e2 e3
          clear g3 t3
          go_wp2
          go_roundw
          case rel => exact ⟨k + 1, true, zs2 ++ [⟨yx, yw, yh, yd⟩], by go_num, rfl, by omega, by simpa using P3, by simpa using HK, hx3, hb3, hsz3⟩
          case measure => simp [intOf]; omega
      · have HK : Hid (KeepAt ⟨x, wv, ho, d⟩ (es.take (k + 1)) (zs ++ [⟨yx, yw, yh, yd⟩]) true) := by rw [Hid, dUnhide HT]; exact (dUnhide hka).on (.inl rfl)
        clear hka HT
        go_wp2
        go_quiet (fail)
        go_wp2
        go_quiet (fail)
        go_wp2_with (at_builtin; refine wp_apR elemE rfl _ _ rfl (w.heap.size + 1) (.slice oa zs.length oc) zs rfl (ApR.below (dUnhide K _ (by first | exact Below.refl _ _ | exact below_drewN (Below.refl _ _) _ | exact below_drewN (below_drewN (Below.refl _ _) _) _)).1 (ba _ _)) _ [⟨yx, yw, yh, yd⟩] rfl (dUnhide RE _ _) ?c1 ?c2 ?c3 ?_)
        case c1 => (try simp); omega
        case c2 => (try simp); omega
        case c3 => have := (dUnhide K _ (Below.refl _ _)).2.2.2; (try simp); omega
        intro v2 w2 P2 g2 t2
        have hb2 := Below.grown (belowThen (dUnhide K _ (by first | exact Below.refl _ _ | exact below_drewN (Below.refl _ _) _ | exact below_drewN (below_drewN (Below.refl _ _) _) _)).2.2.1 (ba _ _)) g2 (by have := (dUnhide K _ (Below.refl _ _)).2.2.2; simp; omega) (fun k hk => by have := ((dUnhide K _ (Below.refl _ _)).1.touched elemE hk).1; omega)
        have hx2 := Bx.grown (Bx.below (dUnhide K _ (by first | exact Below.refl _ _ | exact below_drewN (Below.refl _ _) _ | exact below_drewN (below_drewN (Below.refl _ _) _) _)).2.1 (ba _ _)) g2 (fun e => by have := ((dUnhide K _ (Below.refl _ _)).1.touched elemE e).1; omega)
        have hsz2 : w.heap.size + 1 ≤ w2.heap.size := by have h1 := g2.size; have h2 := (dUnhide K _ (Below.refl _ _)).2.2.2; simp at h1; omega
        clear K c0 c1 c2 c3 y0 y1 y2 y3 HC
        clear g2 t2
        go_wp2
        go_roundw
        case rel => exact ⟨k + 1, true, zs ++ [⟨yx, yw, yh, yd⟩], by go_num, rfl, by omega, by simpa using P2, by simpa using HK, hx2, hb2, hsz2⟩
        case measure => simp [intOf]; omega
    · have e1 : es.take k = es := List.take_of_length_le (by omega)
      rw [e1] at hka
      clear e1 HV
      have K : Hid (∀ W, Below wr.heap.size wr W → ApE W (w.heap.size + 1) (.slice oa zs.length oc) zs ∧ Bx W w.heap.size [.int .i64 x, .int .i64 wv, .bool ho, .string d] ∧ Below w.heap.size w W ∧ w.heap.size + 1 ≤ wr.heap.size) := fun W hB => ⟨hap.below hB, hx.below hB, belowThen hb hB, hsz⟩
      cases p
      · obtain ⟨m1, rfl⟩ := (dUnhide hka).2 rfl
        have eP : Hid (zs ++ [⟨x, wv, ho, d⟩] = keepL ⟨x, wv, ho, d⟩ zs) := by
          have := keepL_all m1 []
          rw [Hid]
          simpa [keepL] using this.symm
        clear m1 hka hap hx hb hsz
        go_wp2_with (at_builtin; refine wp_apR elemE rfl _ _ rfl (w.heap.size + 1) (.slice oa zs.length oc) zs rfl (ApR.below (dUnhide K _ (by first | exact Below.refl _ _ | exact below_drewN (Below.refl _ _) _ | exact below_drewN (below_drewN (Below.refl _ _) _) _)).1 (ba _ _)) _ [⟨x, wv, ho, d⟩] rfl (dUnhide RO _ _) ?c1 ?c2 ?c3 ?_)
        case c1 => (try simp); omega
        case c2 => (try simp); omega
        case c3 => have := (dUnhide K _ (Below.refl _ _)).2.2.2; (try simp); omega
        intro v2 w2 P2 g2 t2
        have hb2 := Below.grown (belowThen (dUnhide K _ (by first | exact Below.refl _ _ | exact below_drewN (Below.refl _ _) _ | exact below_drewN (below_drewN (Below.refl _ _) _) _)).2.2.1 (ba _ _)) g2 (by have := (dUnhide K _ (Below.refl _ _)).2.2.2; simp; omega) (fun k hk => by have := ((dUnhide K _ (Below.refl _ _)).1.touched elemE hk).1; omega)
        have hx2 := Bx.grown (Bx.below (dUnhide K _ (by first | exact Below.refl _ _ | exact below_drewN (Below.refl _ _) _ | exact below_drewN (below_drewN (Below.refl _ _) _) _)).2.1 (ba _ _)) g2 (fun e => by have := ((dUnhide K _ (Below.refl _ _)).1.touched elemE e).1; omega)
        have hsz2 : w.heap.size + 1 ≤ w2.heap.size := by have h1 := g2.size; have h2 := (dUnhide K _ (Below.refl _ _)).2.2.2; simp at h1; omega
        have q : Hid (ApE w2 w.heap.size v2 (keepL ⟨x, wv, ho, d⟩ zs)) := by rw [Hid, ← dUnhide eP]; exact P2.mono (by omega)
        clear g2 t2 P2 eP K y0 y1 y2 y3
        go_wp2
        go_ret
        exact ⟨⟨_, rfl, dUnhide q⟩, hb2⟩
      · have eP := ((dUnhide hka).1 rfl).2
        have q : Hid (ApE wr w.heap.size (.slice oa zs.length oc) (keepL ⟨x, wv, ho, d⟩ es)) := by rw [Hid, ← eP]; exact hap.mono (by omega)
        clear eP hka hap K y0 y1 y2 y3
        go_wp2
        go_ret
        exact ⟨⟨_, rfl, dUnhide q⟩, hb⟩
end Go.Proofs.Ytejmfohkobhidaa
