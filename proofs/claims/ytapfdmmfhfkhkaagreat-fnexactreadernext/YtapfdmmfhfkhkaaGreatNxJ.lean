/- Readers: impl's bestAt. -/
import Derived.Test.YtapfdmmfhfkhkaaGreatNxG
import Derived.Test.YtapfdmmfhfkhkaaGreatNxB
import Derived.Test.YtapfdmmfhfkhkaaGreatGbI
import Derived.Deep.RegionHeld3
import Derived.Deep.DeepCutAuto
namespace Go.Proofs.YtapfdmmfhfkhkaaGreat
open Go.ChangeShapes Go.WideShapes Go.ChangeAt Go.RowKit
set_option linter.unusedVariables false
set_option linter.unusedSimpArgs false
set_option maxRecDepth 100000

/-- What a reader comes to where it looks at what was answered. -/
def hapB (ep off : Int) : Option Ent → Hap
  | none => .loss ep off
  | some b => if b.hole then .hole ep off else .data ep off b.data
theorem hapB_fits {ep off : Int} (h1 : 0 ≤ ep ∧ ep ≤ 40) (h2 : 0 ≤ off ∧ off ≤ 70) (o : Option Ent) : (hapB ep off o).fits := by
  cases o with
  | none => exact ⟨h1, h2⟩
  | some b =>
    unfold hapB
    simp only
    split
    · exact ⟨h1, h2⟩
    · exact ⟨h1, h2⟩
theorem hapB_ev (ep off : Int) (o : Option Ent) : (hapB ep off o).ev = evO (ep * 4294967296 + off) o := by
  cases o with
  | none => rfl
  | some b =>
    unfold hapB evO
    simp only
    split <;> rfl
theorem hapB_on (ep off : Int) (o : Option Ent) : (hapB ep off o).on = (ep, off + 1) := by
  cases o with
  | none => rfl
  | some b =>
    unfold hapB
    simp only
    split <;> rfl
set_option maxHeartbeats 8000000 in
theorem bestAt_any (v : Value) (ep off : Int) (l : List Aw) (w : World) (hv : RdAnswerS v l w) (hl : l.length ≤ 1048576) (hf : ∀ a ∈ l, fitAw a) (h1 : 0 ≤ ep) (h2 : ep ≤ 40) (h3 : 0 ≤ off) (h4 : off ≤ 70) :
    Calls Tryz.prog 169 #[.agg #[.int .i64 ep, .int .i64 off], v] w fun e w' => e = .returned (hapB ep off (bestO (entL (ep * 4294967296 + off) l))).val ∧ Below w.heap.size w w' := by
  have ba : ∀ (w : World) o, Below w.heap.size w (w.alloc o) := fun w o => (Below.refl _ _).alloc (Nat.le_refl _) o
  have CN := dHide fun W => number_wide ep off h1 h2 h3 h4 W
  have CE := dHide fun W (hb : Below w.heap.size w W) => entriesAt_any v (ep * 4294967296 + off) l W (hv.below hb) hl hf
  obtain ⟨a, cap, rfl, -⟩ := formAnswerS hv
  generalize entL (ep * 4294967296 + off) l = es at *
  have B0 := ba w (.cells #[.int .i64 ep, .int .i64 off] 111)
  have H0 := Bx.new w [.int .i64 ep, .int .i64 off] 111
  have hs0 : Hid ((w.alloc (.cells #[.int .i64 ep, .int .i64 off] 111)).heap.size = w.heap.size + 1) := by simp [Hid]
  clear hv hf h1 h2 h3 h4
  go_enter Tryz.func169, Tryz.ntmps169
  go_wp2_with fail
  generalize w.alloc (.cells #[.int .i64 ep, .int .i64 off] 111) = w0 at *
  refine (dUnhide CN _).mono ?_
  rintro e w1 ⟨rfl, b1⟩
  have B1 := belowThen B0 b1
  clear CN
  go_wp2_with fail
  refine (dUnhide CE _ B1).mono ?_
  rintro e w2 ⟨⟨u, rfl, R2⟩, b2⟩
  have B2 := belowThen B1 b2
  have H2 := (H0.below b1).below b2
  have hs2 : w.heap.size < w2.heap.size := dCell_lt (H2 0 _ rfl)
  clear CE B1 B0 H0 b1 b2 hs0
  obtain ⟨hle, ua, uc, rfl, huc, -⟩ := id R2
  cases es with
  | nil =>
    obtain ⟨v0, v1⟩ : _ ∧ _ := ⟨H2 0 _ rfl, H2 1 _ rfl⟩
    simp only [List.length_nil]
    clear R2 H2
    go_wp2
    go_ret
    exact ⟨rfl, B2⟩
  | cons x tl =>
    obtain ⟨b, of, rfl, hc⟩ := Rw.ent R2 (show 0 < (x :: tl).length by simp)
    obtain ⟨c0, c1, c2, c3⟩ := hc 0 (by simp)
    simp only [List.getElem_cons_zero, Nat.zero_mul, Nat.add_zero] at c0 c1 c2 c3
    have HNB : Hid (b < w2.heap.size) := dCell_lt c0
    have HC : Hid (∀ W, Below w2.heap.size w2 W → ∀ k (hk : k < tl.length), EntAt W b (of + 4 + k * 4) tl[k]) := fun W hW k hk => by
      have q := (hc (k + 1) (by simpa using hk)).below hW
      rw [show of + (k + 1) * 4 = of + 4 + k * 4 by omega] at q
      simpa using q
    have GO : Hid (∀ best, List.foldl better x tl = best → hapB ep off (bestO (x :: tl)) = if best.hole then .hole ep off else .data ep off best.data) := fun best h => by
      unfold bestO hapB
      simp only
      rw [h]
    simp only [List.length_cons] at *
    have X3 := BxZ.new (B := w.heap.size) w2 [.int .i64 x.pl, .int .i64 x.wave, .bool x.hole, .string x.data] 36 (by omega)
    have bE := ba w2 (.cells #[.int .i64 x.pl, .int .i64 x.wave, .bool x.hole, .string x.data] 36)
    have B3 := belowThen B2 bE
    have H3 := H2.below bE
    have HC3 := dHide fun W (hW : Below (w2.alloc (.cells #[.int .i64 x.pl, .int .i64 x.wave, .bool x.hole, .string x.data] 36)).heap.size (w2.alloc (.cells #[.int .i64 x.pl, .int .i64 x.wave, .bool x.hole, .string x.data] 36)) W) => dUnhide HC W (belowThen bE hW)
    have hs3 : (w2.alloc (.cells #[.int .i64 x.pl, .int .i64 x.wave, .bool x.hole, .string x.data] 36)).heap.size = w2.heap.size + 1 := by simp
    have HS3 := dHide hs3
    have HX3 := dHide X3
    have HH3 := dHide H3
    clear X3 bE H3 H2 hc HC R2 hs3 B2
    have hz0 : (((tl.length : Nat) : Int) + 1 == 0) = false := by rw [beq_eq_false_iff_ne]; omega
    by_cases hc1 : uc = 1
    · obtain rfl : tl = [] := List.length_eq_zero_iff.1 (by omega)
      subst hc1
      simp only [List.length_nil, List.foldl_nil] at *
      go_wp2
      generalize w2.alloc (.cells #[.int .i64 x.pl, .int .i64 x.wave, .bool x.hole, .string x.data] 36) = w3 at *
      clear c0 c1 c2 c3
      obtain ⟨p0, p1, p2, p3⟩ := x
      simp only at *
      have hB : Hid (({ pl := p0, wave := p1, hole := p2, data := p3 } : Ent) = ⟨p0, p1, p2, p3⟩) := rfl
      go_loopw [26] (fun y wr => y = .int .i64 0 ∧ wr = w3) (fun _ _ => 0)
      case atStart => exact ⟨rfl, rfl⟩
      case round =>
        obtain ⟨rfl, rfl⟩ := hrel
        have hX := HX3
        have hH := HH3
        have hb := B3
        clear HX3 HH3 HC3 HS3
        have e9 := dUnhide GO _ (dUnhide hB)
        simp only at e9
        obtain ⟨g2, -⟩ := (dUnhide hX).2 2 _ rfl
        obtain ⟨g3, -⟩ := (dUnhide hX).2 3 _ rfl
        obtain ⟨v0, v1⟩ : _ ∧ _ := ⟨dUnhide hH 0 _ rfl, dUnhide hH 1 _ rfl⟩
        clear hB hX hH GO
        cases p2
        · simp only [Bool.false_eq_true, if_false] at e9
          have E9 := dHide e9
          clear e9
          go_wp2
          go_ret
          exact ⟨by rw [dUnhide E9]; rfl, hb⟩
        · simp only [if_true] at e9
          have E9 := dHide e9
          clear e9
          go_wp2
          go_ret
          exact ⟨by rw [dUnhide E9]; rfl, hb⟩
    · have hc2 : 1 < uc := by omega
      have hlt1 : (1 : Int) < (uc : Int) := by omega
      go_wp2
      generalize w2.alloc (.cells #[.int .i64 x.pl, .int .i64 x.wave, .bool x.hole, .string x.data] 36) = w3 at *
      generalize hbx : w2.heap.size = bx at *
      clear c0 c1 c2 c3
      have hNB : Hid (∀ k, k < tl.length → b < bx) := fun k hk => dUnhide HNB
      go_loopw [26] (fun y wr => ∃ (k : Nat) (best : Ent), y = .int .i64 (k : Int) ∧ k ≤ tl.length ∧ Hid (List.foldl better x (tl.take k) = best) ∧ Hid (BxZ wr w.heap.size bx [.int .i64 best.pl, .int .i64 best.wave, .bool best.hole, .string best.data]) ∧ Hid (Bx wr w.heap.size [.int .i64 ep, .int .i64 off]) ∧ Hid (∀ W, Below wr.heap.size wr W → ∀ k (hk : k < tl.length), EntAt W b (of + 4 + k * 4) tl[k]) ∧ Below w.heap.size w wr) (fun y _ => tl.length - (intOf y).toNat)
      case atStart => exact ⟨0, x, rfl, Nat.zero_le _, rfl, HX3, HH3, HC3, B3⟩
      case round =>
        obtain ⟨k, ⟨p0, p1, p2, p3⟩, rfl, hk, hB, hX, hH, hC, hb⟩ := hrel
        clear HX3 HH3 HC3 B3
        simp only at hX
        by_cases hlt : (k : Int) < (tl.length : Int)
        · have hkl : k < tl.length := by omega
          obtain ⟨c0, c1, c2, c3⟩ := dUnhide hC wr (Below.refl _ _) k hkl
          have GB : Hid (List.foldl better x (tl.take (k + 1)) = better ⟨p0, p1, p2, p3⟩ tl[k]) := by
            rw [Hid, List.take_succ_eq_append_getElem hkl, List.foldl_append, dUnhide hB]
            rfl
          have hbxw : bx < wr.heap.size := (dUnhide hX).lt
          have hbxg : w.heap.size ≤ bx := (dUnhide hX).1
          have hcb : bx ≠ b := fun e => by
            have q := dUnhide hNB k hkl
            omega
          generalize hyk : tl[k] = y at c0 c1 c2 c3 GB
          obtain ⟨y0, y1, y2, y3⟩ := y
          simp only at c0 c1 c2 c3
          have CB := dHide (implBetter_any ⟨p0, p1, p2, p3⟩ ⟨y0, y1, y2, y3⟩)
          generalize better ⟨p0, p1, p2, p3⟩ ⟨y0, y1, y2, y3⟩ = nb at *
          obtain ⟨n0, n1, n2, n3⟩ := nb
          unfold Ent.val at CB
          simp only at CB
          have bA := ba wr (.cells #[.int .i64 y0, .int .i64 y1, .bool y2, .string y3] 36)
          have X1 := (dUnhide hX).below bA
          have H1 := (dUnhide hH).below bA
          have E1 := Bx.new wr [.int .i64 y0, .int .i64 y1, .bool y2, .string y3] 36
          have B1 := belowThen hb bA
          obtain ⟨q0, q1, q2, q3⟩ : _ ∧ _ ∧ _ ∧ _ := ⟨(X1.2 0 _ rfl).1, (X1.2 1 _ rfl).1, (X1.2 2 _ rfl).1, (X1.2 3 _ rfl).1⟩
          obtain ⟨r0, r1, r2, r3⟩ : _ ∧ _ ∧ _ ∧ _ := ⟨E1 0 _ rfl, E1 1 _ rfl, E1 2 _ rfl, E1 3 _ rfl⟩
          have hC1 := dHide fun W (hW : Below (wr.alloc (.cells #[.int .i64 y0, .int .i64 y1, .bool y2, .string y3] 36)).heap.size (wr.alloc (.cells #[.int .i64 y0, .int .i64 y1, .bool y2, .string y3] 36)) W) => dUnhide hC W (belowThen bA hW)
          clear hyk E1 bA hX hH hC hB hb
          go_wp2_with fail
          generalize wr.alloc (.cells #[.int .i64 y0, .int .i64 y1, .bool y2, .string y3] 36) = w5 at *
          clear c0 c1 c2 c3
          refine (dUnhide CB _).mono ?_
          rintro e w6 ⟨rfl, b6⟩
          have X6 := X1.below b6
          obtain ⟨z0, f0⟩ := X6.2 0 _ rfl
          obtain ⟨z1, f1⟩ := X6.2 1 _ rfl
          obtain ⟨z2, f2⟩ := X6.2 2 _ rfl
          obtain ⟨z3, f3⟩ := X6.2 3 _ rfl
          have X7 := dHide ((((X6.put 0 (.int .i64 n0)).put 1 (.int .i64 n1)).put 2 (.bool n2)).put 3 (.string n3))
          have H7 := dHide (((((H1.below b6).farQ (b' := bx) (o := 0) (by omega) (.int .i64 n0)).farQ (b' := bx) (o := 1) (by omega) (.int .i64 n1)).farQ (b' := bx) (o := 2) (by omega) (.bool n2)).farQ (b' := bx) (o := 3) (by omega) (.string n3))
          have B7 := (((((belowThen B1 b6).setCell (p := ⟨bx, 0, none⟩) (by simp only; omega) (.int .i64 n0)).setCell (p := ⟨bx, 1, none⟩) (by simp only; omega) (.int .i64 n1)).setCell (p := ⟨bx, 2, none⟩) (by simp only; omega) (.bool n2)).setCell (p := ⟨bx, 3, none⟩) (by simp only; omega) (.string n3))
          have C7 : Hid (∀ W, Below ((((w6.setCell ⟨bx, 0, none⟩ (.int .i64 n0)).setCell ⟨bx, 1, none⟩ (.int .i64 n1)).setCell ⟨bx, 2, none⟩ (.bool n2)).setCell ⟨bx, 3, none⟩ (.string n3)).heap.size ((((w6.setCell ⟨bx, 0, none⟩ (.int .i64 n0)).setCell ⟨bx, 1, none⟩ (.int .i64 n1)).setCell ⟨bx, 2, none⟩ (.bool n2)).setCell ⟨bx, 3, none⟩ (.string n3)) W → ∀ k (hk : k < tl.length), EntAt W b (of + 4 + k * 4) tl[k]) := fun W hW k hk => by
            obtain ⟨d0, d1, d2, d3⟩ := dUnhide hC1 w6 b6 k hk
            have fr : ∀ o (u : Value), w6.cell? ⟨b, o, none⟩ = some u → ((((w6.setCell ⟨bx, 0, none⟩ (.int .i64 n0)).setCell ⟨bx, 1, none⟩ (.int .i64 n1)).setCell ⟨bx, 2, none⟩ (.bool n2)).setCell ⟨bx, 3, none⟩ (.string n3)).cell? ⟨b, o, none⟩ = some u := fun o u h => set_other (set_other (set_other (set_other h (.inl (Ne.symm hcb))) (.inl (Ne.symm hcb))) (.inl (Ne.symm hcb))) (.inl (Ne.symm hcb))
            exact EntAt.below ⟨fr _ _ d0, fr _ _ d1, fr _ _ d2, fr _ _ d3⟩ hW
          clear CB X6 X1 H1 B1 b6 hC1 q0 q1 q2 q3 r0 r1 r2 r3
          go_wp2
          go_roundw
          case rel => exact ⟨k + 1, ⟨n0, n1, n2, n3⟩, by go_num, by omega, GB, X7, H7, C7, B7⟩
          case measure => simp [intOf]; omega
        · have e1 : tl.take k = tl := List.take_of_length_le (by omega)
          rw [e1] at hB
          clear hC e1 HS3
          have e9 := dUnhide GO _ (dUnhide hB)
          simp only at e9
          obtain ⟨g2, -⟩ := (dUnhide hX).2 2 _ rfl
          obtain ⟨g3, -⟩ := (dUnhide hX).2 3 _ rfl
          obtain ⟨v0, v1⟩ : _ ∧ _ := ⟨dUnhide hH 0 _ rfl, dUnhide hH 1 _ rfl⟩
          clear hB hX hH GO
          cases p2
          · simp only [Bool.false_eq_true, if_false] at e9
            have E9 := dHide e9
            clear e9
            go_wp2
            go_ret
            exact ⟨by rw [dUnhide E9]; rfl, hb⟩
          · simp only [if_true] at e9
            have E9 := dHide e9
            clear e9
            go_wp2
            go_ret
            exact ⟨by rw [dUnhide E9]; rfl, hb⟩
end Go.Proofs.YtapfdmmfhfkhkaaGreat
