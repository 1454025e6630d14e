/- Readers: spec's l10Best: the best of what counts. -/
import Derived.Test.YtjkjmapibcfcdaaGreatNxS
import Derived.Deep.RegionHeld3
import Derived.Deep.DeepCutAuto
namespace Go.Proofs.YtjkjmapibcfcdaaGreat
open Go.ChangeShapes Go.WideShapes Go.ChangeAt Go.RowKit
set_option linter.unusedVariables false
set_option linter.unusedSimpArgs false
set_option maxRecDepth 100000

theorem Bx.farQ {w : World} {b b' o : Nat} {vs : List Value} (h : Bx w b vs) (hb : b ≠ b') (u : Value) : Bx (w.setCell ⟨b', o, none⟩ u) b vs := fun i v hv => sO (h i v hv) (.inl hb)
def HldB (set : List Int) (place : Int) (l : List Aw) (b : Bool) (best : Ent) : Prop := bestO (goodL set place l) = if b then some best else none
set_option maxHeartbeats 16000000 in
theorem l10Best_any (sv v : Value) (set : List Int) (place : Int) (l : List Aw) (w : World) (hs : Ns w sv set) (hv : RdAnswerS v l w) (hf : ∀ a ∈ l, a.ent.fits) :
  Calls Tryz.prog 57 #[sv, .int .i64 place, v] w fun e w' => e = .returned (evO place (bestO (goodL set place l))).val ∧ Below w.heap.size w w' := by
 have ba : ∀ (w : World) o, Below w.heap.size w (w.alloc o) := fun w o => (Below.refl _ _).alloc (Nat.le_refl _) o
 have HV := dH fun W (hb : Below w.heap.size w W) => RdAnswerS.below hv hb
 have CH := dH fun W (hb : Below w.heap.size w W) (y : Int) => l4Has_any sv set y W (hs.below hb)
 have HF := dH hf
 obtain ⟨-, sa, sc, rfl, -, -⟩ := hs
 obtain ⟨a, cap, rfl, hle⟩ := formAnswerS hv
 have GO : Hid (∀ (b : Bool) (best : Ent), HldB set place l b best → evO place (bestO (goodL set place l)) = if b then (if best.hole then ⟨2, place, ⟨#[]⟩⟩ else ⟨1, place, best.data⟩) else ⟨3, place, ⟨#[]⟩⟩) := fun b best h => by
  unfold HldB at h
  rw [h]
  cases b <;> rfl
 generalize evO place (bestO (goodL set place l)) = R at *
 have B0 := bT (ba w (.cells #[.int .i64 0, .int .i64 0, .string ⟨#[]⟩] 53)) (ba _ (.cells #[.int .i64 0, .int .i64 0, .bool false, .string ⟨#[]⟩] 36))
 have Y0 := dH ((BxZ.new (B := w.heap.size) w [.int .i64 0, .int .i64 0, .string ⟨#[]⟩] 53 (Nat.le_refl _)).below (ba _ (.cells #[.int .i64 0, .int .i64 0, .bool false, .string ⟨#[]⟩] 36)))
 have X0 := BxZ.new (B := w.heap.size) (w.alloc (.cells #[.int .i64 0, .int .i64 0, .string ⟨#[]⟩] 53)) [.int .i64 0, .int .i64 0, .bool false, .string ⟨#[]⟩] 36 (by simp)
 rw [show (w.alloc (.cells #[.int .i64 0, .int .i64 0, .string ⟨#[]⟩] 53)).heap.size = w.heap.size + 1 from by simp] at X0
 replace X0 := dH X0
 clear hv hf
 go_enter Tryz.func57, Tryz.ntmps57
 go_wp2
 go_loopw [8, 9] (fun s x wr => ∃ (k : Nat) (b : Bool) (best : Ent), s = .bool b ∧ x = .int .i64 (k : Int) ∧ k ≤ l.length ∧ Hid (HldB set place (l.take k) b best) ∧ Hid (BxZ wr w.heap.size (w.heap.size + 1) [.int .i64 best.pl, .int .i64 best.wave, .bool best.hole, .string best.data]) ∧ Hid (BxZ wr w.heap.size w.heap.size [.int .i64 0, .int .i64 0, .string ⟨#[]⟩]) ∧ Below w.heap.size w wr) (fun _ x _ => l.length - (intOf x).toNat)
 case atStart => exact ⟨0, false, ⟨0, 0, false, ⟨#[]⟩⟩, rfl, rfl, Nat.zero_le _, by simp [Hid, HldB, goodL, bestO], X0, Y0, B0⟩
 case round =>
  obtain ⟨k, b, ⟨p0, p1, p2, p3⟩, rfl, rfl, hk, hH, hX, hY, hb⟩ := hrel
  clear X0 Y0 B0
  simp only at hX
  by_cases hlt : (k : Int) < (l.length : Int)
  ·have hkl : k < l.length := by omega
   obtain ⟨bl, off, rfl, hc⟩ := (dU HV wr hb).atAw hkl
   obtain ⟨c0, c1, c2, c3, c4, c5⟩ := hc k hkl
   have CE := dH (specEntOk_any l[k].ent (dU HF _ (List.getElem_mem hkl)))
   have GY : Hid (goodA set place l[k] → HldB set place (l.take (k + 1)) true (better (if b then ⟨p0, p1, p2, p3⟩ else l[k].ent) l[k].ent)) := fun h => by
    have e := dU hH
    unfold HldB at e ⊢
    rw [goodL_yes hkl h]
    cases b
    ·rw [bestO_first e]; simp [better_self]
    ·rw [bestO_some e]; rfl
   have GN : Hid (¬ goodA set place l[k] → HldB set place (l.take (k + 1)) b ⟨p0, p1, p2, p3⟩) := fun h => by
    have e := dU hH
    unfold HldB at e ⊢
    rw [goodL_no hkl h]
    exact e
   unfold goodA at GY GN
   generalize l[k] = y at *
   obtain ⟨y0, y1, ⟨y2, y3, y4, y5⟩⟩ := y
   simp only at *
   unfold Ent.val at CE
   simp only at CE
   clear hc hH
   have hsz : w.heap.size + 1 < wr.heap.size := (dU hX).lt
   cases y1
   ·have G := dH (dU GN (fun h => by cases h.1))
    have X9 := dH ((dU hX).below (ba wr (.cells #[.int .i64 y0, .bool false, .int .i64 y2, .int .i64 y3, .bool y4, .string y5] 57)))
    have Y9 := dH ((dU hY).below (ba wr (.cells #[.int .i64 y0, .bool false, .int .i64 y2, .int .i64 y3, .bool y4, .string y5] 57)))
    have B9 := bT hb (ba wr (.cells #[.int .i64 y0, .bool false, .int .i64 y2, .int .i64 y3, .bool y4, .string y5] 57))
    clear GY GN CE CH hX hY
    go_wp2
    go_roundw
    case rel => exact ⟨k + 1, b, ⟨p0, p1, p2, p3⟩, rfl, by go_num, by omega, G, X9, Y9, B9⟩
    case measure => simp [intOf]; omega
   have bA := ba wr (.cells #[.int .i64 y0, .bool true, .int .i64 y2, .int .i64 y3, .bool y4, .string y5] 57)
   have A1 := Bx.new wr [.int .i64 y0, .bool true, .int .i64 y2, .int .i64 y3, .bool y4, .string y5] 57
   have hB1 := bT hb bA
   have hX1 := dH ((dU hX).below bA)
   have hY1 := dH ((dU hY).below bA)
   have HA1 := dH fun W (hB : Below (wr.alloc (.cells #[.int .i64 y0, .bool true, .int .i64 y2, .int .i64 y3, .bool y4, .string y5] 57)).heap.size (wr.alloc (.cells #[.int .i64 y0, .bool true, .int .i64 y2, .int .i64 y3, .bool y4, .string y5] 57)) W) => A1.below hB
   have hs1 : wr.heap.size < (wr.alloc (.cells #[.int .i64 y0, .bool true, .int .i64 y2, .int .i64 y3, .bool y4, .string y5] 57)).heap.size := by simp
   clear A1 hX hY bA hb
   go_wp2_with fail
   generalize wr.alloc (.cells #[.int .i64 y0, .bool true, .int .i64 y2, .int .i64 y3, .bool y4, .string y5] 57) = w1 at *
   clear c0 c1 c2 c3 c4 c5
   refine (dU CH _ hB1 _).mono ?_
   rintro e w1' ⟨⟨b1, rfl, h1⟩, rfl⟩
   clear CH
   obtain ⟨a0, a1, a2, a3, a4, a5⟩ : _ ∧ _ ∧ _ ∧ _ ∧ _ ∧ _ := ⟨dU HA1 w1' (Below.refl _ _) 0 _ rfl, dU HA1 w1' (Below.refl _ _) 1 _ rfl, dU HA1 w1' (Below.refl _ _) 2 _ rfl, dU HA1 w1' (Below.refl _ _) 3 _ rfl, dU HA1 w1' (Below.refl _ _) 4 _ rfl, dU HA1 w1' (Below.refl _ _) 5 _ rfl⟩
   cases b1
   ·have G := dH (dU GN (fun h => by have := h1.2 h.2.1; cases this))
    clear GY GN CE h1 HA1
    go_wp2
    go_roundw
    case rel => exact ⟨k + 1, b, ⟨p0, p1, p2, p3⟩, rfl, by go_num, by omega, G, hX1, hY1, hB1⟩
    case measure => simp [intOf]; omega
   have H1 := dH (h1.1 rfl)
   clear h1
   go_wp2_with fail
   refine (dU CE _).mono ?_
   rintro e w2 ⟨⟨b2, rfl, h2⟩, bl2⟩
   have hB2 := bT hB1 bl2
   have hX2 := dH ((dU hX1).below bl2)
   have hY2 := dH ((dU hY1).below bl2)
   have A2 := dU HA1 w2 bl2
   have hs2 : wr.heap.size < w2.heap.size := Nat.lt_of_lt_of_le hs1 bl2.size
   clear CE a0 a1 a2 a3 a4 a5 hX1 hY1 hB1 HA1 bl2
   obtain ⟨a0, a1, a2, a3, a4, a5⟩ : _ ∧ _ ∧ _ ∧ _ ∧ _ ∧ _ := ⟨A2 0 _ rfl, A2 1 _ rfl, A2 2 _ rfl, A2 3 _ rfl, A2 4 _ rfl, A2 5 _ rfl⟩
   cases b2
   ·have G := dH (dU GN (fun h => by have := h2.2 h.2.2.1; cases this))
    clear GY GN h2 A2
    go_wp2
    go_roundw
    case rel => exact ⟨k + 1, b, ⟨p0, p1, p2, p3⟩, rfl, by go_num, by omega, G, hX2, hY2, hB2⟩
    case measure => simp [intOf]; omega
   have H2 := dH (h2.1 rfl)
   clear h2
   by_cases hp : y2 = place
   case neg =>
    have hp' : (y2 != place) = true := by simpa using hp
    have G := dH (dU GN (fun h => hp h.2.2.2))
    clear GY GN A2
    go_wp2
    go_roundw
    case rel => exact ⟨k + 1, b, ⟨p0, p1, p2, p3⟩, rfl, by go_num, by omega, G, hX2, hY2, hB2⟩
    case measure => simp [intOf]; omega
   case pos =>
    have hp' : (y2 != place) = false := by simpa using hp
    have G := dH (dU GY ⟨by first | rfl | trivial, dU H1, dU H2, hp⟩)
    clear GY GN H1 H2 hp
    cases b
    ·have CB := dH (specBetter_any ⟨y2, y3, y4, y5⟩ ⟨y2, y3, y4, y5⟩)
     rw [better_self] at CB
     simp only [Bool.false_eq_true, if_false, better_self] at G
     unfold Ent.val at CB
     simp only at CB
     have A3 := ((((A2.farQ (b' := w.heap.size + 1) (o := 0) (by omega) (.int .i64 y2)).farQ (b' := w.heap.size + 1) (o := 1) (by omega) (.int .i64 y3)).farQ (b' := w.heap.size + 1) (o := 2) (by omega) (.bool y4)).farQ (b' := w.heap.size + 1) (o := 3) (by omega) (.string y5))
     have X3 := (((((dU hX2).put 0 (.int .i64 y2)).put 1 (.int .i64 y3)).put 2 (.bool y4)).put 3 (.string y5))
     have Y3 := dH (((((dU hY2).far (b' := w.heap.size + 1) (o := 0) (by omega) (.int .i64 y2)).far (b' := w.heap.size + 1) (o := 1) (by omega) (.int .i64 y3)).far (b' := w.heap.size + 1) (o := 2) (by omega) (.bool y4)).far (b' := w.heap.size + 1) (o := 3) (by omega) (.string y5))
     have B3 := ((((hB2.setCell (p := ⟨w.heap.size + 1, 0, none⟩) (by simp only; omega) (.int .i64 y2)).setCell (p := ⟨w.heap.size + 1, 1, none⟩) (by simp only; omega) (.int .i64 y3)).setCell (p := ⟨w.heap.size + 1, 2, none⟩) (by simp only; omega) (.bool y4)).setCell (p := ⟨w.heap.size + 1, 3, none⟩) (by simp only; omega) (.string y5))
     have HX3 := dH X3
     obtain ⟨x0, x1, x2, x3⟩ : _ ∧ _ ∧ _ ∧ _ := ⟨(dU hX2).2 0 _ rfl, (dU hX2).2 1 _ rfl, (dU hX2).2 2 _ rfl, (dU hX2).2 3 _ rfl⟩
     obtain ⟨x0', x1', x2', x3'⟩ : _ ∧ _ ∧ _ ∧ _ := ⟨X3.2 0 _ rfl, X3.2 1 _ rfl, X3.2 2 _ rfl, X3.2 3 _ rfl⟩
     obtain ⟨q2, q3, q4, q5⟩ : _ ∧ _ ∧ _ ∧ _ := ⟨A3 2 _ rfl, A3 3 _ rfl, A3 4 _ rfl, A3 5 _ rfl⟩
     obtain ⟨x00, f0⟩ := x0
     obtain ⟨x01, f1⟩ := x1
     obtain ⟨x02, f2⟩ := x2
     obtain ⟨x03, f3⟩ := x3
     have s3 : wr.heap.size < ((((w2.setCell ⟨w.heap.size + 1, 0, none⟩ (.int .i64 y2)).setCell ⟨w.heap.size + 1, 1, none⟩ (.int .i64 y3)).setCell ⟨w.heap.size + 1, 2, none⟩ (.bool y4)).setCell ⟨w.heap.size + 1, 3, none⟩ (.string y5)).heap.size := by simpa using hs2
     replace x0' := x0'.1
     replace x1' := x1'.1
     replace x2' := x2'.1
     replace x3' := x3'.1
     clear A2 A3 X3 hX2 hY2 hB2
     go_wp2_with fail
     generalize ((((w2.setCell ⟨w.heap.size + 1, 0, none⟩ (.int .i64 y2)).setCell ⟨w.heap.size + 1, 1, none⟩ (.int .i64 y3)).setCell ⟨w.heap.size + 1, 2, none⟩ (.bool y4)).setCell ⟨w.heap.size + 1, 3, none⟩ (.string y5)) = w3 at *
     clear x00 x01 x02 x03 f0 f1 f2 f3 a0 a1 a2 a3 a4 a5
     refine (dU CB _).mono ?_
     rintro e w4 ⟨rfl, bl4⟩
     have X4 := (dU HX3).below bl4
     have Y4 := dH ((((((dU Y3).below bl4).far (b' := w.heap.size + 1) (o := 0) (by omega) (.int .i64 y2)).far (b' := w.heap.size + 1) (o := 1) (by omega) (.int .i64 y3)).far (b' := w.heap.size + 1) (o := 2) (by omega) (.bool y4)).far (b' := w.heap.size + 1) (o := 3) (by omega) (.string y5))
     have B4 := (((((bT B3 bl4).setCell (p := ⟨w.heap.size + 1, 0, none⟩) (by simp only; omega) (.int .i64 y2)).setCell (p := ⟨w.heap.size + 1, 1, none⟩) (by simp only; omega) (.int .i64 y3)).setCell (p := ⟨w.heap.size + 1, 2, none⟩) (by simp only; omega) (.bool y4)).setCell (p := ⟨w.heap.size + 1, 3, none⟩) (by simp only; omega) (.string y5))
     have X5 := dH ((((X4.put 0 (.int .i64 y2)).put 1 (.int .i64 y3)).put 2 (.bool y4)).put 3 (.string y5))
     obtain ⟨x0, f0⟩ := X4.2 0 _ rfl
     obtain ⟨x1, f1⟩ := X4.2 1 _ rfl
     obtain ⟨x2, f2⟩ := X4.2 2 _ rfl
     obtain ⟨x3, f3⟩ := X4.2 3 _ rfl
     clear CB HX3 Y3 B3 X4 x0' x1' x2' x3' q2 q3 q4 q5 bl4
     go_wp2
     go_roundw
     case rel => exact ⟨k + 1, true, ⟨y2, y3, y4, y5⟩, rfl, by go_num, by omega, G, X5, Y4, B4⟩
     case measure => simp [intOf]; omega
    ·have CB := dH (specBetter_any ⟨p0, p1, p2, p3⟩ ⟨y2, y3, y4, y5⟩)
     simp only [if_true] at G
     generalize better ⟨p0, p1, p2, p3⟩ ⟨y2, y3, y4, y5⟩ = nb at *
     obtain ⟨n0, n1, n2, n3⟩ := nb
     unfold Ent.val at CB
     simp only at CB
     have HX2 := hX2
     obtain ⟨x0, x1, x2, x3⟩ : _ ∧ _ ∧ _ ∧ _ := ⟨((dU hX2).2 0 _ rfl).1, ((dU hX2).2 1 _ rfl).1, ((dU hX2).2 2 _ rfl).1, ((dU hX2).2 3 _ rfl).1⟩
     clear A2
     go_wp2_with fail
     refine (dU CB _).mono ?_
     rintro e w4 ⟨rfl, bl4⟩
     have X4 := (dU HX2).below bl4
     have Y4 := dH ((((((dU hY2).below bl4).far (b' := w.heap.size + 1) (o := 0) (by omega) (.int .i64 n0)).far (b' := w.heap.size + 1) (o := 1) (by omega) (.int .i64 n1)).far (b' := w.heap.size + 1) (o := 2) (by omega) (.bool n2)).far (b' := w.heap.size + 1) (o := 3) (by omega) (.string n3))
     have B4 := (((((bT hB2 bl4).setCell (p := ⟨w.heap.size + 1, 0, none⟩) (by simp only; omega) (.int .i64 n0)).setCell (p := ⟨w.heap.size + 1, 1, none⟩) (by simp only; omega) (.int .i64 n1)).setCell (p := ⟨w.heap.size + 1, 2, none⟩) (by simp only; omega) (.bool n2)).setCell (p := ⟨w.heap.size + 1, 3, none⟩) (by simp only; omega) (.string n3))
     have X5 := dH ((((X4.put 0 (.int .i64 n0)).put 1 (.int .i64 n1)).put 2 (.bool n2)).put 3 (.string n3))
     clear x0 x1 x2 x3
     obtain ⟨x0, f0⟩ := X4.2 0 _ rfl
     obtain ⟨x1, f1⟩ := X4.2 1 _ rfl
     obtain ⟨x2, f2⟩ := X4.2 2 _ rfl
     obtain ⟨x3, f3⟩ := X4.2 3 _ rfl
     clear CB HX2 hX2 hY2 hB2 X4 a0 a1 a2 a3 a4 a5 bl4
     go_wp2
     go_roundw
     case rel => exact ⟨k + 1, true, ⟨n0, n1, n2, n3⟩, rfl, by go_num, by omega, G, X5, Y4, B4⟩
     case measure => simp [intOf]; omega
  ·have e1 : l.take k = l := List.take_of_length_le (by omega)
   rw [e1] at hH
   have e2 := dU GO b _ (dU hH)
   simp only at e2
   obtain ⟨x2, -⟩ := (dU hX).2 2 _ rfl
   obtain ⟨x3, -⟩ := (dU hX).2 3 _ rfl
   obtain ⟨q0, f0⟩ := (dU hY).2 0 _ rfl
   obtain ⟨q1, f1⟩ := (dU hY).2 1 _ rfl
   obtain ⟨q2, f2⟩ := (dU hY).2 2 _ rfl
   have FN : Hid (∀ (x0 x1 : Int) (x2 : ByteArray), R = ⟨x0, x1, x2⟩ → (Ending.returned (.agg #[.int .i64 x0, .int .i64 x1, .string x2]) = .returned R.val ∧ Below w.heap.size w (((wr.setCell ⟨w.heap.size, 0, none⟩ (.int .i64 x0)).setCell ⟨w.heap.size, 1, none⟩ (.int .i64 x1)).setCell ⟨w.heap.size, 2, none⟩ (.string x2)))) := fun x0 x1 x2 e => ⟨by rw [e]; rfl, ((hb.setCell (p := ⟨w.heap.size, 0, none⟩) (by simp) _).setCell (p := ⟨w.heap.size, 1, none⟩) (by simp) _).setCell (p := ⟨w.heap.size, 2, none⟩) (by simp) _⟩
   have FY : Hid (∀ (x0 x1 : Int) (x2 : ByteArray), BxZ (((wr.setCell ⟨w.heap.size, 0, none⟩ (.int .i64 x0)).setCell ⟨w.heap.size, 1, none⟩ (.int .i64 x1)).setCell ⟨w.heap.size, 2, none⟩ (.string x2)) w.heap.size w.heap.size [.int .i64 x0, .int .i64 x1, .string x2]) := fun x0 x1 x2 => (((dU hY).put 0 (.int .i64 x0)).put 1 (.int .i64 x1)).put 2 (.string x2)
   clear hH hX hY HV CH HF GO e1
   cases b
   ·simp only [Bool.false_eq_true, if_false] at e2
    have F := dH (dU FN _ _ _ e2)
    have Y9 := dU FY 3 place ⟨#[]⟩
    have r0 := (Y9.2 0 _ rfl).1
    have r1 := (Y9.2 1 _ rfl).1
    have r2 := (Y9.2 2 _ rfl).1
    clear FN FY e2 Y9
    go_wp2_with fail
    generalize (((wr.setCell ⟨w.heap.size, 0, none⟩ (.int .i64 3)).setCell ⟨w.heap.size, 1, none⟩ (.int .i64 place)).setCell ⟨w.heap.size, 2, none⟩ (.string ⟨#[]⟩)) = V at *
    exact bodyPost_ret (v := .agg #[.int .i64 3, .int .i64 place, .string ⟨#[]⟩]) (by simp [results, Tryz.results57, go_sem, r0, r1, r2]) rfl (dU F)
   ·cases p2
    ·simp only [Bool.false_eq_true, if_false, if_true] at e2
     have F := dH (dU FN _ _ _ e2)
     have Y9 := dU FY 1 place p3
     have r0 := (Y9.2 0 _ rfl).1
     have r1 := (Y9.2 1 _ rfl).1
     have r2 := (Y9.2 2 _ rfl).1
     clear FN FY e2 Y9
     go_wp2_with fail
     generalize (((wr.setCell ⟨w.heap.size, 0, none⟩ (.int .i64 1)).setCell ⟨w.heap.size, 1, none⟩ (.int .i64 place)).setCell ⟨w.heap.size, 2, none⟩ (.string p3)) = V at *
     exact bodyPost_ret (v := .agg #[.int .i64 1, .int .i64 place, .string p3]) (by simp [results, Tryz.results57, go_sem, r0, r1, r2]) rfl (dU F)
    ·simp only [if_true] at e2
     have F := dH (dU FN _ _ _ e2)
     have Y9 := dU FY 2 place ⟨#[]⟩
     have r0 := (Y9.2 0 _ rfl).1
     have r1 := (Y9.2 1 _ rfl).1
     have r2 := (Y9.2 2 _ rfl).1
     clear FN FY e2 Y9
     go_wp2_with fail
     generalize (((wr.setCell ⟨w.heap.size, 0, none⟩ (.int .i64 2)).setCell ⟨w.heap.size, 1, none⟩ (.int .i64 place)).setCell ⟨w.heap.size, 2, none⟩ (.string ⟨#[]⟩)) = V at *
     exact bodyPost_ret (v := .agg #[.int .i64 2, .int .i64 place, .string ⟨#[]⟩]) (by simp [results, Tryz.results57, go_sem, r0, r1, r2]) rfl (dU F)
end Go.Proofs.YtjkjmapibcfcdaaGreat
