/- Several texts in one: NxE, NxG, NxJ. -/
import Derived.Test.YtjkjmapibcfcdaaGreatGz22
import Derived.Test.YtjkjmapibcfcdaaGreatNxD
import Derived.Test.YtjkjmapibcfcdaaGreatGz17
import Derived.Test.YtjkjmapibcfcdaaGreatGbI
import Derived.Test.YtjkjmapibcfcdaaGreatGaT
import Derived.Deep.RegionHeld3
import Derived.Deep.DeepCutAuto
import Derived.Test.YtjkjmapibcfcdaaGreatGbP
import Derived.Test.YtjkjmapibcfcdaaGreatNxB
namespace Go.Proofs.YtjkjmapibcfcdaaGreat
open Go.ChangeShapes Go.WideShapes Go.ChangeAt Go.RowKit
set_option linter.unusedSimpArgs false
set_option linter.unusedVariables false
set_option maxRecDepth 100000
def fitAw (a : Aw) : Prop := (-9223372036854775808 ≤ a.node ∧ a.node ≤ 9223372036854775807) ∧ a.ent.fits
theorem CopyInvN.below {w wr wr' : World} {g k : Nat} {bs : List Int} (h : CopyInvN w wr g k bs) (hb : Below wr.heap.size wr wr') : CopyInvN w wr' g k bs := by
 obtain ⟨h1, h2, h3, h4, h5⟩ := h
 refine ⟨fun i hi => ?_, h2, bT h3 hb, h4, Nat.lt_of_lt_of_le h5 hb.size⟩
 obtain ⟨c, c1, c2, c3⟩ := h1 i hi
 exact ⟨c, (hb.cell (p := ⟨g, i, none⟩) h5).trans c1, c2, (hb.frozen (p := ⟨g, i, none⟩) h5).trans c3⟩
set_option maxHeartbeats 2000000 in
theorem answeringNodes_any (v : Value) (l : List Aw) (w : World) (hv : RdAnswerS v l w) (hl : l.length ≤ 1048576) :
  Calls Tryz.prog 46 #[v] w fun e w' => (∃ u, e = .returned u ∧ OwnN w' w.heap.size u (l.map Aw.node)) ∧ Below w.heap.size w w' := by
 have HV := dH fun W (hb : Below w.heap.size w W) => RdAnswerS.below hv hb
 obtain ⟨a, cap, rfl, -⟩ := formAnswerS hv
 have hmk := makeN l.length (by omega)
 have hlm : (l.map Aw.node).length = l.length := List.length_map ..
 have HLM := dH hlm
 have ST : Hid (CopyInvN w (w.alloc (.cells (zerosN l.length) 3)) w.heap.size 0 (l.map Aw.node)) := by
  have := CopyInvN.start (w := w) (bs := l.map Aw.node)
  rw [hlm] at this
  exact this
 clear hv hlm
 go_enter Tryz.func46, Tryz.ntmps46
 go_wp2
 go_loopw [11] (fun x wr => ∃ k : Nat, x = .int .i64 (k : Int) ∧ k ≤ l.length ∧ Hid (CopyInvN w wr w.heap.size k (l.map Aw.node))) (fun x _ => l.length - (intOf x).toNat)
 case atStart => exact ⟨0, rfl, Nat.zero_le _, ST⟩
 case round =>
  obtain ⟨k, rfl, hk, hinv⟩ := hrel
  by_cases hlt : (k : Int) < (l.length : Int)
  ·have hkl : k < l.length := by omega
   have hb := (dU hinv).2.2.1
   obtain ⟨b, off, rfl, hc⟩ := (dU HV wr hb).atAw hkl
   obtain ⟨c0, c1, c2, c3, c4, c5⟩ := hc k hkl
   have hkm : k < (l.map Aw.node).length := by rw [dU HLM]; exact hkl
   have ek : l[k].node = (l.map Aw.node)[k] := by rw [List.getElem_map]
   have EK := dH ek
   clear ek hc
   generalize hy : l[k] = y at *
   obtain ⟨y0, y1, ⟨y2, y3, y4, y5⟩⟩ := y
   simp only at c0 c1 c2 c3 c4 c5 EK
   clear hy
   have bA := (Below.refl wr.heap.size wr).alloc (Nat.le_refl _) (.cells #[.int .i64 y0, .bool y1, .int .i64 y2, .int .i64 y3, .bool y4, .string y5] 57)
   have I1 : Hid (CopyInvN w (wr.alloc (.cells #[.int .i64 y0, .bool y1, .int .i64 y2, .int .i64 y3, .bool y4, .string y5] 57)) w.heap.size k (l.map Aw.node)) := (dU hinv).below bA
   obtain ⟨⟨c, c9⟩, f9⟩ := CopyInvN.now I1 hkm
   have I2 := dH ((CopyInvN.step hinv hkm (dU EK)).below ((Below.refl _ _).alloc (Nat.le_refl _) (.cells #[.int .i64 y0, .bool y1, .int .i64 y2, .int .i64 y3, .bool y4, .string y5] 57)))
   have hlt0 := (dU hinv).2.2.2.2
   clear hinv I1 hb EK bA
   go_wp2
   go_roundw
   case rel => exact ⟨k + 1, by go_num, by omega, I2⟩
   case measure => simp [intOf]; omega
  ·have ek : k = (l.map Aw.node).length := by rw [dU HLM]; omega
   rw [ek] at hinv
   have O := CopyInvN.done hinv (by rw [dU HLM]; omega)
   have hb := (dU hinv).2.2.1
   rw [dU HLM] at O
   have HO := dH O
   clear hinv ek O
   go_wp2
   go_ret
   exact ⟨⟨_, rfl, dU HO⟩, hb⟩
theorem fromFn (z : Aw) (bn sb : Nat) (xs : List Int) (W : World) (hc : W.cell? ⟨bn, 0, none⟩ = some (.map (some sb))) (hS : SetN W sb xs) (hz : -9223372036854775808 ≤ z.node ∧ z.node ≤ 9223372036854775807) :
  Calls Tryz.prog 136 (#[z.val] ++ #[.pointer (some ⟨bn, 0, none⟩)]) W fun e w' => e = .returned (.bool (decide (z.node ∉ xs))) ∧ Below W.heap.size W w' := by
 have ba : ∀ o, Below W.heap.size W (W.alloc o) := fun o => (Below.refl _ _).alloc (Nat.le_refl _) o
 obtain ⟨y0, y1, ⟨y2, y3, y4, y5⟩⟩ := z
 show Calls Tryz.prog 136 #[.agg #[.int .i64 y0, .bool y1, .int .i64 y2, .int .i64 y3, .bool y4, .string y5], .pointer (some ⟨bn, 0, none⟩)] W _
 simp only at *
 have CH := dH fun o => setHas_any sb xs y0 (W.alloc o) (hS.below (ba o)) hz
 have c1 := fun o => ((ba o).cell (p := ⟨bn, 0, none⟩) (dCell_lt hc)).trans hc
 clear hS
 go_enter Tryz.func136, Tryz.ntmps136
 go_wp2_with fail
 refine (dU CH _).mono ?_
 rintro e w1 ⟨⟨b1, rfl, h1⟩, b2⟩
 have E : Hid ((!b1) = decide (y0 ∉ xs)) := by
  show _ = _
  cases b1
  ·have : y0 ∉ xs := fun h => by have := h1.2 h; cases this
   simp [this]
  ·have := h1.1 rfl
   simp [this]
 clear CH h1 c1 hc
 go_wp2
 go_ret
 exact ⟨by rw [dU E]; rfl, bT (ba _) b2⟩
def fromL (set : List Int) (l : List Aw) : List Aw := l.filter fun a => decide (a.node ∈ set)
set_option maxHeartbeats 4000000 in
theorem answersFrom_any (sv v : Value) (set : List Int) (l : List Aw) (w : World) (hs : Ns w sv set) (hv : RdAnswerS v l w) (ha : allInt set) (hsl : set.length ≤ 1048576) (hl : l.length ≤ 1048576) (hf : ∀ a ∈ l, fitAw a) :
  Calls Tryz.prog 102 #[sv, v] w fun e w' => (∃ u, e = .returned u ∧ RdAnswerS u (fromL set l) w') ∧ Below w.heap.size w w' := by
 have CS := dH (setOf_any sv set w hs ha hsl)
 have HV := dH fun W (hb : Below w.heap.size w W) => RdAnswerS.below hv hb
 obtain ⟨-, sa, sc, rfl, -, -⟩ := hs
 obtain ⟨va, vc, rfl, -⟩ := formAnswerS hv
 have HF := dH fun z (hz : z ∈ l) => (hf z hz).1
 have EQ : Hid (flZ (fun z : Aw => decide (z.node ∉ dedL set)) l = fromL set l) := by
  unfold flZ fromL
  apply List.filter_congr
  intro x hx
  by_cases h : x.node ∈ set
  ·have h' := mem_dedL.2 h
   simp [h, h']
  ·have h' : x.node ∉ dedL set := fun q => h (mem_dedL.1 q)
   simp [h, h']
 clear hv hf ha hsl
 go_enter Tryz.func102, Tryz.ntmps102
 go_wp2_with fail
 refine (dU CS).mono ?_
 rintro e w1 ⟨rfl, S1, b1⟩
 clear CS
 have bA := (Below.refl w1.heap.size w1).alloc (Nat.le_refl _) (.cells #[.map (some w.heap.size)] 105)
 have S2 := dH (S1.below bA)
 have X2 := Bx.new w1 [.map (some w.heap.size)] 105
 have B2 := bT b1 bA
 have hs1 : w.heap.size < w1.heap.size := S1.lt
 have CC := dH (cloneA_any _ l _ (dU HV _ B2) hl)
 have hs2 : Hid ((w1.alloc (.cells #[.map (some w.heap.size)] 105)).heap.size = w1.heap.size + 1) := by simp [Hid]
 clear S1 HV bA b1
 go_wp2_with fail
 generalize w1.alloc (.cells #[.map (some w.heap.size)] 105) = w2 at *
 generalize hbn : w1.heap.size = bn at *
 refine (dU CC).mono ?_
 rintro e w3 ⟨⟨u3, rfl, A3⟩, b3⟩
 clear CC
 obtain ⟨ua, uc, rfl⟩ := ApR.slice elemAnswer A3
 have O3 := ApR.own elemAnswer A3
 have S3 := (dU S2).below b3
 have x3 := X2.below b3 0 _ rfl
 have B3 := bT B2 b3
 have h2 := dU hs2
 have hge : l ≠ [] → w2.heap.size ≤ bO (.slice ua l.length uc) := fun hne => (O3.geZ).resolve_left hne
 have CD := dH (deleteA_any ua uc l 136 #[.pointer (some ⟨bn, 0, none⟩)] (fun z => decide (z.node ∉ dedL set)) (fun W => SetN W w.heap.size (dedL set) ∧ W.cell? ⟨bn, 0, none⟩ = some (.map (some w.heap.size))) w2.heap.size w3 (fun _ _ => rfl) O3 ⟨S3, x3⟩ (fun W W' row hI g hr => by
  have hlt := hI.1.lt
  have hl2 := dCell_lt hI.2
  have ne1 : row ≠ some w.heap.size := by
   rcases hr with rfl | ⟨hne, rfl⟩
   ·simp
   ·intro e; have := Option.some.inj e; have := hge hne; omega
  have ne2 : row ≠ some bn := by
   rcases hr with rfl | ⟨hne, rfl⟩
   ·simp
   ·intro e; have := Option.some.inj e; have := hge hne; omega
  exact ⟨hI.1.kept g (fun e => ne1 e.symm), (World.cell?_of_block (a := ⟨bn, 0, none⟩) (g.block bn hl2 (fun e => ne2 e.symm))).trans hI.2⟩) (fun W hI z hz => fromFn z bn w.heap.size (dedL set) W hI.2 hI.1 (dU HF z hz)))
 have HGE := dH hge
 clear S2 O3 S3 x3 A3 X2 hge HF
 go_wp2_with fail
 refine (dU CD).mono ?_
 rintro e w4 ⟨rfl, R4, row, g4, hr4⟩
 rw [dU EQ] at R4
 have B4 : Below w.heap.size w w4 := B3.grown g4 B3.size (fun j hj => by
  rcases hr4 with rfl | ⟨hne, rfl⟩
  ·cases hj
  ·have := Option.some.inj hj; have := dU HGE hne; omega)
 rw [dU EQ]
 have HR := dH R4
 clear CD R4 g4 hr4 EQ
 go_wp2_with fail
 go_ret
 exact ⟨⟨_, rfl, dU HR⟩, B4⟩
def entA (place : Int) (a : Aw) : Prop := a.has = true ∧ a.ent.pl = place ∧ entP a.ent
open Classical in
noncomputable def entL (place : Int) (l : List Aw) : List Ent := (l.filter fun a => decide (entA place a)).map Aw.ent
theorem entL_yes {place : Int} {l : List Aw} {k : Nat} (h : k < l.length) (hx : entA place l[k]) : entL place (l.take (k + 1)) = entL place (l.take k) ++ [l[k].ent] := by
 unfold entL
 rw [List.take_succ_eq_append_getElem h, List.filter_append, List.map_append, List.filter_cons_of_pos (by simpa using hx), List.filter_nil, List.map_cons, List.map_nil]
theorem entL_no {place : Int} {l : List Aw} {k : Nat} (h : k < l.length) (hx : ¬ entA place l[k]) : entL place (l.take (k + 1)) = entL place (l.take k) := by
 unfold entL
 rw [List.take_succ_eq_append_getElem h, List.filter_append, List.map_append, List.filter_cons_of_neg (by simpa using hx), List.filter_nil, List.map_nil, List.append_nil]
theorem entL_len (place : Int) (l : List Aw) : (entL place l).length ≤ l.length := by
 unfold entL
 rw [List.length_map]
 exact List.length_filter_le _ _
theorem entL_from (set : List Int) (place : Int) (l : List Aw) : entL place (fromL set l) = goodL set place l := by
 unfold entL fromL goodL
 rw [List.filter_filter]
 congr 1
 apply List.filter_congr
 intro a _
 have : (entA place a ∧ a.node ∈ set) ↔ goodA set place a := by
  unfold entA goodA
  constructor
  ·rintro ⟨⟨h1, h2, h3⟩, h4⟩; exact ⟨h1, h4, h3, h2⟩
  ·rintro ⟨h1, h4, h3, h2⟩; exact ⟨⟨h1, h2, h3⟩, h4⟩
 by_cases h : goodA set place a
 ·have h' := this.2 h
  simp [h, h'.1, h'.2]
 ·have h' : ¬ (entA place a ∧ a.node ∈ set) := fun q => h (this.1 q)
  by_cases h1 : entA place a
  ·have h2 : a.node ∉ set := fun q => h' ⟨h1, q⟩
   simp [h, h1, h2]
  ·simp [h, h1]
set_option maxHeartbeats 4000000 in
theorem entriesAt_any (v : Value) (place : Int) (l : List Aw) (w : World) (hv : RdAnswerS v l w) (hl : l.length ≤ 1048576) (hf : ∀ a ∈ l, fitAw a) :
  Calls Tryz.prog 137 #[.int .i64 place, v] w fun e w' => (∃ u, e = .returned u ∧ Rw 4 Ent.cl w' u (entL place l)) ∧ Below w.heap.size w w' := by
 have HV := dH fun W (hb : Below w.heap.size w W) => RdAnswerS.below hv hb
 have HF := dH fun z (hz : z ∈ l) => (hf z hz).2
 obtain ⟨a, cap, rfl, -⟩ := formAnswerS hv
 clear hv hf
 go_enter Tryz.func137, Tryz.ntmps137
 go_wp2
 go_loopw [5, 10] (fun o x wr => ∃ (k n : Nat) (oa : Option Addr) (oc : Nat), o = .slice oa n oc ∧ x = .int .i64 (k : Int) ∧ k ≤ l.length ∧ Hid (n = (entL place (l.take k)).length) ∧ Hid (ApE wr w.heap.size (.slice oa n oc) (entL place (l.take k))) ∧ Below w.heap.size w wr) (fun _ x _ => l.length - (intOf x).toNat)
 case atStart => exact ⟨0, 0, none, 0, rfl, rfl, Nat.zero_le _, by simp [Hid, entL], by rw [Hid]; exact .inl ⟨by simp [entL], none, rfl⟩, Below.refl _ _⟩
 case round =>
  obtain ⟨k, n, oa, oc, rfl, rfl, hk, hn, hA, hb⟩ := hrel
  by_cases hlt : (k : Int) < (l.length : Int)
  ·have hkl : k < l.length := by omega
   obtain ⟨b, off, rfl, hc⟩ := (dU HV wr hb).atAw hkl
   obtain ⟨c0, c1, c2, c3, c4, c5⟩ := hc k hkl
   have CE := dH (implEntOk_any l[k].ent (dU HF _ (List.getElem_mem hkl)))
   have GY := dH (entL_yes (place := place) hkl)
   have GN := dH (entL_no (place := place) hkl)
   have hnl : n ≤ 1048576 := by
    have h1 := entL_len place (l.take k)
    have h2 : (l.take k).length ≤ k := by rw [List.length_take]; omega
    have := dU hn
    omega
   unfold entA at GY GN
   generalize l[k] = y at *
   obtain ⟨y0, y1, ⟨y2, y3, y4, y5⟩⟩ := y
   simp only at c0 c1 c2 c3 c4 c5 CE GY GN
   unfold Ent.val at CE
   simp only at CE
   clear hc
   have bA := (Below.refl wr.heap.size wr).alloc (Nat.le_refl _) (.cells #[.int .i64 y0, .bool y1, .int .i64 y2, .int .i64 y3, .bool y4, .string y5] 57)
   have A1 := dH ((ApR.below (dU hA) bA))
   have X1 := Bx.new wr [.int .i64 y0, .bool y1, .int .i64 y2, .int .i64 y3, .bool y4, .string y5] 57
   have B1 := bT hb bA
   have stay : Hid (¬ (y1 = true ∧ y2 = place ∧ entP ⟨y2, y3, y4, y5⟩) → ∀ W, Below (wr.alloc (.cells #[.int .i64 y0, .bool y1, .int .i64 y2, .int .i64 y3, .bool y4, .string y5] 57)).heap.size (wr.alloc (.cells #[.int .i64 y0, .bool y1, .int .i64 y2, .int .i64 y3, .bool y4, .string y5] 57)) W → n = (entL place (l.take (k + 1))).length ∧ ApE W w.heap.size (.slice oa n oc) (entL place (l.take (k + 1)))) := fun h W hW => by
    rw [dU GN h]
    exact ⟨dU hn, ApR.below (dU A1) hW⟩
   have refl1 := Below.refl (wr.alloc (.cells #[.int .i64 y0, .bool y1, .int .i64 y2, .int .i64 y3, .bool y4, .string y5] 57)).heap.size (wr.alloc (.cells #[.int .i64 y0, .bool y1, .int .i64 y2, .int .i64 y3, .bool y4, .string y5] 57))
   cases y1
   ·have G := dH (dU stay (fun h => by cases h.1) _ refl1)
    clear GY GN CE stay hA A1 X1 refl1 hn
    go_wp2
    go_roundw
    case rel => exact ⟨k + 1, n, oa, oc, rfl, by go_num, by omega, (dU G).1, (dU G).2, B1⟩
    case measure => simp [intOf]; omega
   by_cases hp : y2 = place
   case neg =>
    have hp' : (y2 == place) = false := by simpa using hp
    have G := dH (dU stay (fun h => hp h.2.1) _ refl1)
    clear GY GN CE stay hA A1 X1 refl1 hn
    go_wp2
    go_roundw
    case rel => exact ⟨k + 1, n, oa, oc, rfl, by go_num, by omega, (dU G).1, (dU G).2, B1⟩
    case measure => simp [intOf]; omega
   case pos =>
    have hp' : (y2 == place) = true := by simpa using hp
    have GY1 := dH fun h => dU GY ⟨by first | rfl | trivial, hp, h⟩
    have ST1 := dH fun (h : ¬ entP ⟨y2, y3, y4, y5⟩) => dU stay (fun q => h q.2.2)
    clear GY GN stay hp refl1
    go_wp2_with fail
    generalize wr.alloc (.cells #[.int .i64 y0, .bool true, .int .i64 y2, .int .i64 y3, .bool y4, .string y5] 57) = w1 at *
    refine (dU CE _).mono ?_
    rintro e w2 ⟨⟨b2, rfl, h2⟩, bl2⟩
    have B2 := bT B1 bl2
    have X2 := X1.below bl2
    cases b2
    ·have G := dH (dU ST1 (fun h => by have := h2.2 h; cases this) _ bl2)
     clear GY1 ST1 CE h2 hA A1 X1 X2 hn c0 c1 c2 c3 c4 c5 bl2
     go_wp2
     go_roundw
     case rel => exact ⟨k + 1, n, oa, oc, rfl, by go_num, by omega, (dU G).1, (dU G).2, B2⟩
     case measure => simp [intOf]; omega
    ·have E1 := dH (dU GY1 (h2.1 rfl))
     obtain ⟨a2, a3, a4, a5⟩ : _ ∧ _ ∧ _ ∧ _ := ⟨X2 2 _ rfl, X2 3 _ rfl, X2 4 _ rfl, X2 5 _ rfl⟩
     have bE := (Below.refl w2.heap.size w2).alloc (Nat.le_refl _) (.cells #[.int .i64 y2, .int .i64 y3, .bool y4, .string y5] 36)
     have A3 := dH (ApR.below (ApR.below (dU A1) bl2) bE)
     have R3 := dH (rw_one w2 ⟨y2, y3, y4, y5⟩ 36 1 (by omega))
     have B3 := bT B2 bE
     have hen : (entL place (l.take k)).length ≤ 1048576 := by have := dU hn; omega
     have TG := dH (fun j (hj : touch (.slice oa n oc) = some j) => (ApR.touched elemE (dU A3) hj).1)
     have HN2 := hn
     clear GY1 ST1 CE h2 hA A1 X1 X2 hn c0 c1 c2 c3 c4 c5 bE bl2
     generalize entL place (l.take k) = es at *
     go_wp2_with (
      at_builtin
      refine wp_apR elemE rfl _ _ rfl w.heap.size _ es rfl (dU A3) _ [⟨y2, y3, y4, y5⟩] rfl (dU R3) (by simp; omega) (by simp; omega) (by have := B3.size; exact this) ?_
      intro u w5 O5 g5 t5
      obtain ⟨ua, uc, eu⟩ : ∃ a c, u = .slice a (n + 1) c := by
       obtain ⟨a, c, e⟩ := ApR.slice elemE O5
       exact ⟨a, c, by rw [e]; simp [dU HN2]⟩
      subst eu
      have B5 := B3.grown g5 B3.size (fun j hj => dU TG j hj)
      have HO5 := dH O5
      clear O5 g5 t5)
     go_roundw
     case rel => exact ⟨k + 1, n + 1, ua, uc, rfl, by go_num, by omega, by rw [Hid, dU E1, List.length_append, ← dU HN2]; rfl, by rw [Hid, dU E1]; exact dU HO5, B5⟩
     case measure => simp [intOf]; omega
  ·have e1 : l.take k = l := List.take_of_length_le (by omega)
   rw [e1] at hn hA
   have R : Hid (Rw 4 Ent.cl wr (.slice oa n oc) (entL place l)) := (ApR.own elemE (dU hA)).rw
   clear hn hA e1 HV HF
   go_wp2
   go_ret
   exact ⟨⟨_, rfl, dU R⟩, hb⟩
inductive Hap where
 | data (ep off : Int) (d : ByteArray)
 | hole (ep off : Int)
 | loss (ep off : Int)
 | era (n : Int)
 | trim (ep off : Int)
def Hap.val : Hap → Value
 | .data e o d => .iface 167 (.agg #[.int .i64 e, .int .i64 o, .string d])
 | .hole e o => .iface 165 (.agg #[.int .i64 e, .int .i64 o])
 | .loss e o => .iface 164 (.agg #[.int .i64 e, .int .i64 o])
 | .era n => .iface 132 (.agg #[.int .i64 n])
 | .trim e o => .iface 130 (.agg #[.int .i64 e, .int .i64 o])
def Hap.ev : Hap → Ev
 | .data e o d => ⟨1, e * 4294967296 + o, d⟩
 | .hole e o => ⟨2, e * 4294967296 + o, ⟨#[]⟩⟩
 | .loss e o => ⟨3, e * 4294967296 + o, ⟨#[]⟩⟩
 | .era n => ⟨4, n, ⟨#[]⟩⟩
 | .trim e o => ⟨5, e * 4294967296 + o, ⟨#[]⟩⟩
def Hap.on : Hap → Int × Int
 | .data e o _ => (e, o + 1)
 | .hole e o => (e, o + 1)
 | .loss e o => (e, o + 1)
 | .era n => (n, 1)
 | .trim e o => (e, o + 1)
def Hap.fits : Hap → Prop
 | .data e o _ => (0 ≤ e ∧ e ≤ 40) ∧ (0 ≤ o ∧ o ≤ 70)
 | .hole e o => (0 ≤ e ∧ e ≤ 40) ∧ (0 ≤ o ∧ o ≤ 70)
 | .loss e o => (0 ≤ e ∧ e ≤ 40) ∧ (0 ≤ o ∧ o ≤ 70)
 | .era n => 0 ≤ n ∧ n ≤ 40
 | .trim e o => (0 ≤ e ∧ e ≤ 40) ∧ (0 ≤ o ∧ o ≤ 70)
theorem number_wide (a b : Int) (h1 : 0 ≤ a) (h2 : a ≤ 40) (h3 : 0 ≤ b) (h4 : b ≤ 70) (w : World) :
  Calls Tryz.prog 101 #[.agg #[.int .i64 a, .int .i64 b]] w fun e w' => e = .returned (.int .i64 (a * 4294967296 + b)) ∧ Below w.heap.size w w' := by
 go_enter Tryz.func101, Tryz.ntmps101
 go_wp2
 go_ret
 exact ⟨rfl, (Below.refl _ _).alloc (Nat.le_refl _) _⟩
set_option maxHeartbeats 4000000 in
theorem eventOf_data (e o : Int) (d : ByteArray) (hf : (Hap.data e o d).fits) (w : World) : Calls Tryz.prog 105 #[(Hap.data e o d).val] w fun e' w' => e' = .returned (Hap.data e o d).ev.val ∧ Below w.heap.size w w' := by
 obtain ⟨⟨h1, h2⟩, h3, h4⟩ := hf
 show Calls Tryz.prog 105 #[.iface 167 (.agg #[.int .i64 e, .int .i64 o, .string d])] w fun e' w' => e' = .returned (.agg #[.int .i64 1, .int .i64 (e * 4294967296 + o), .string d]) ∧ Below w.heap.size w w'
 have ta0 : ∀ w, (Instr.typeAssert (.iface 167 (.agg #[.int .i64 e, .int .i64 o, .string d])) 89 167 true).run Tryz.prog w = .ok (.tuple #[.agg #[.int .i64 e, .int .i64 o, .string d], .bool true]) w := fun w => by kernel_rfl
 have ba : ∀ (w : World) o, Below w.heap.size w (w.alloc o) := fun w o => (Below.refl _ _).alloc (Nat.le_refl _) o
 have CN := dH fun W => number_wide e o h1 h2 h3 h4 W
 have Y0 := (BxZ.new (B := w.heap.size) w [.int .i64 0, .int .i64 0, .string ⟨#[]⟩] 53 (Nat.le_refl _)).below (ba _ (.cells #[.int .i64 e, .int .i64 o, .string d] 167))
 have B0 := bT (ba w (.cells #[.int .i64 0, .int .i64 0, .string ⟨#[]⟩] 53)) (ba _ (.cells #[.int .i64 e, .int .i64 o, .string d] 167))
 have hsz : Hid (((w.alloc (.cells #[.int .i64 0, .int .i64 0, .string ⟨#[]⟩] 53)).alloc (.cells #[.int .i64 e, .int .i64 o, .string d] 167)).heap.size = w.heap.size + 2) := by simp [Hid]
 have X0 := Bx.new (w.alloc (.cells #[.int .i64 0, .int .i64 0, .string ⟨#[]⟩] 53)) [.int .i64 e, .int .i64 o, .string d] 167
 rw [show (w.alloc (.cells #[.int .i64 0, .int .i64 0, .string ⟨#[]⟩] 53)).heap.size = w.heap.size + 1 from by simp] at X0
 clear h1 h2 h3 h4
 go_enter Tryz.func105, Tryz.ntmps105
 go_upto_region 4 with fail
 generalize ((w.alloc (.cells #[.int .i64 0, .int .i64 0, .string ⟨#[]⟩] 53)).alloc (.cells #[.int .i64 e, .int .i64 o, .string d] 167)) = w2 at *
 have PX : Hid (∀ W, Below w2.heap.size w2 W → W.cell? ⟨w.heap.size + 1, 0, none⟩ = some (.int .i64 e) ∧ W.cell? ⟨w.heap.size + 1, 1, none⟩ = some (.int .i64 o) ∧ W.cell? ⟨w.heap.size + 1, 2, none⟩ = some (.string d)) := fun W hW => ⟨X0.below hW 0 _ rfl, X0.below hW 1 _ rfl, X0.below hW 2 _ rfl⟩
 have PZ : Hid (∀ W, Below w2.heap.size w2 W → BxZ W w.heap.size w.heap.size [.int .i64 0, .int .i64 0, .string ⟨#[]⟩]) := fun W hW => Y0.below hW
 have bd : Below w2.heap.size w2 w2.drew := (Below.refl _ _).drew
 have hne : w.heap.size + 1 ≠ w.heap.size := by omega
 clear X0 Y0
 go_wp2_with fail
 go_region_held3 (fun W => W.cell? ⟨w.heap.size + 1, 0, none⟩ = some (.int .i64 e) ∧ W.cell? ⟨w.heap.size + 1, 1, none⟩ = some (.int .i64 o) ∧ W.cell? ⟨w.heap.size + 1, 2, none⟩ = some (.string d)) (first | exact dU PX _ b5' | exact dU PX _ bd | exact ⟨sO (sO (sO (dU PX _ b5').1 (.inl hne)) (.inl hne)) (.inl hne), sO (sO (sO (dU PX _ b5').2.1 (.inl hne)) (.inl hne)) (.inl hne), sO (sO (sO (dU PX _ b5').2.2 (.inl hne)) (.inl hne)) (.inl hne)⟩ | go_keep)
  (first
   | (go_at_call 101; refine (dU CN _).mono ?_; rintro e' w1 ⟨rfl, b5⟩; have b5' := bT bd b5; obtain ⟨z0, f0⟩ := (dU PZ _ b5').2 0 _ rfl; obtain ⟨z1, f1⟩ := (dU PZ _ b5').2 1 _ rfl; obtain ⟨z2, f2⟩ := (dU PZ _ b5').2 2 _ rfl; clear b5))
 all_goals
  have YY := dH ((((dU PZ _ b5').put 0 (.int .i64 1)).put 1 (.int .i64 (e * 4294967296 + o))).put 2 (.string d))
  have BB := dH ((((bT B0 b5').setCell (p := ⟨w.heap.size, 0, none⟩) (by simp) (.int .i64 1)).setCell (p := ⟨w.heap.size, 1, none⟩) (by simp) (.int .i64 (e * 4294967296 + o))).setCell (p := ⟨w.heap.size, 2, none⟩) (by simp) (.string d))
  clear PX PZ
  go_wp2_with fail
  generalize (((w1.setCell ⟨w.heap.size, 0, none⟩ (.int .i64 1)).setCell ⟨w.heap.size, 1, none⟩ (.int .i64 (e * 4294967296 + o))).setCell ⟨w.heap.size, 2, none⟩ (.string d)) = V at *
  have q0 := ((dU YY).2 0 _ rfl).1
  have q1 := ((dU YY).2 1 _ rfl).1
  have q2 := ((dU YY).2 2 _ rfl).1
  exact bodyPost_ret (v := .agg #[.int .i64 1, .int .i64 (e * 4294967296 + o), .string d]) (by simp [results, Tryz.results105, go_sem, q0, q1, q2]) rfl ⟨rfl, dU BB⟩
set_option maxHeartbeats 4000000 in
theorem eventOf_hole (e o : Int) (hf : (Hap.hole e o).fits) (w : World) : Calls Tryz.prog 105 #[(Hap.hole e o).val] w fun e' w' => e' = .returned (Hap.hole e o).ev.val ∧ Below w.heap.size w w' := by
 obtain ⟨⟨h1, h2⟩, h3, h4⟩ := hf
 show Calls Tryz.prog 105 #[.iface 165 (.agg #[.int .i64 e, .int .i64 o])] w fun e' w' => e' = .returned (.agg #[.int .i64 2, .int .i64 (e * 4294967296 + o), .string ⟨#[]⟩]) ∧ Below w.heap.size w w'
 have ta0 : ∀ w, (Instr.typeAssert (.iface 165 (.agg #[.int .i64 e, .int .i64 o])) 89 167 true).run Tryz.prog w = .ok (.tuple #[.agg #[.int .i64 0, .int .i64 0, .string ⟨#[]⟩], .bool false]) w := fun w => by kernel_rfl
 have ta1 : ∀ w, (Instr.typeAssert (.iface 165 (.agg #[.int .i64 e, .int .i64 o])) 89 165 true).run Tryz.prog w = .ok (.tuple #[.agg #[.int .i64 e, .int .i64 o], .bool true]) w := fun w => by kernel_rfl
 have ba : ∀ (w : World) o, Below w.heap.size w (w.alloc o) := fun w o => (Below.refl _ _).alloc (Nat.le_refl _) o
 have CN := dH fun W => number_wide e o h1 h2 h3 h4 W
 have Y0 := (BxZ.new (B := w.heap.size) w [.int .i64 0, .int .i64 0, .string ⟨#[]⟩] 53 (Nat.le_refl _)).below (ba _ (.cells #[.int .i64 e, .int .i64 o] 165))
 have B0 := bT (ba w (.cells #[.int .i64 0, .int .i64 0, .string ⟨#[]⟩] 53)) (ba _ (.cells #[.int .i64 e, .int .i64 o] 165))
 have hsz : Hid (((w.alloc (.cells #[.int .i64 0, .int .i64 0, .string ⟨#[]⟩] 53)).alloc (.cells #[.int .i64 e, .int .i64 o] 165)).heap.size = w.heap.size + 2) := by simp [Hid]
 clear h1 h2 h3 h4
 go_enter Tryz.func105, Tryz.ntmps105
 go_wp2_with fail
 generalize ((w.alloc (.cells #[.int .i64 0, .int .i64 0, .string ⟨#[]⟩] 53)).alloc (.cells #[.int .i64 e, .int .i64 o] 165)) = w2 at *
 refine (dU CN _).mono ?_
 rintro e' w1 ⟨rfl, b1⟩
 have Y1 := Y0.below b1
 have YY := dH ((((Y0.below b1).put 0 (.int .i64 2)).put 1 (.int .i64 (e * 4294967296 + o))).put 2 (.string ⟨#[]⟩))
 have BB := dH ((((bT B0 b1).setCell (p := ⟨w.heap.size, 0, none⟩) (by simp) (.int .i64 2)).setCell (p := ⟨w.heap.size, 1, none⟩) (by simp) (.int .i64 (e * 4294967296 + o))).setCell (p := ⟨w.heap.size, 2, none⟩) (by simp) (.string ⟨#[]⟩))
 obtain ⟨z0, f0⟩ := Y1.2 0 _ rfl
 obtain ⟨z1, f1⟩ := Y1.2 1 _ rfl
 obtain ⟨z2, f2⟩ := Y1.2 2 _ rfl
 clear CN Y0 Y1 B0 b1
 go_wp2_with fail
 generalize (((w1.setCell ⟨w.heap.size, 0, none⟩ (.int .i64 2)).setCell ⟨w.heap.size, 1, none⟩ (.int .i64 (e * 4294967296 + o))).setCell ⟨w.heap.size, 2, none⟩ (.string ⟨#[]⟩)) = V at *
 have q0 := ((dU YY).2 0 _ rfl).1
 have q1 := ((dU YY).2 1 _ rfl).1
 have q2 := ((dU YY).2 2 _ rfl).1
 exact bodyPost_ret (v := .agg #[.int .i64 2, .int .i64 (e * 4294967296 + o), .string ⟨#[]⟩]) (by simp [results, Tryz.results105, go_sem, q0, q1, q2]) rfl ⟨rfl, dU BB⟩
set_option maxHeartbeats 4000000 in
theorem eventOf_loss (e o : Int) (hf : (Hap.loss e o).fits) (w : World) : Calls Tryz.prog 105 #[(Hap.loss e o).val] w fun e' w' => e' = .returned (Hap.loss e o).ev.val ∧ Below w.heap.size w w' := by
 obtain ⟨⟨h1, h2⟩, h3, h4⟩ := hf
 show Calls Tryz.prog 105 #[.iface 164 (.agg #[.int .i64 e, .int .i64 o])] w fun e' w' => e' = .returned (.agg #[.int .i64 3, .int .i64 (e * 4294967296 + o), .string ⟨#[]⟩]) ∧ Below w.heap.size w w'
 have ta0 : ∀ w, (Instr.typeAssert (.iface 164 (.agg #[.int .i64 e, .int .i64 o])) 89 167 true).run Tryz.prog w = .ok (.tuple #[.agg #[.int .i64 0, .int .i64 0, .string ⟨#[]⟩], .bool false]) w := fun w => by kernel_rfl
 have ta1 : ∀ w, (Instr.typeAssert (.iface 164 (.agg #[.int .i64 e, .int .i64 o])) 89 165 true).run Tryz.prog w = .ok (.tuple #[.agg #[.int .i64 0, .int .i64 0], .bool false]) w := fun w => by kernel_rfl
 have ta2 : ∀ w, (Instr.typeAssert (.iface 164 (.agg #[.int .i64 e, .int .i64 o])) 89 164 true).run Tryz.prog w = .ok (.tuple #[.agg #[.int .i64 e, .int .i64 o], .bool true]) w := fun w => by kernel_rfl
 have ba : ∀ (w : World) o, Below w.heap.size w (w.alloc o) := fun w o => (Below.refl _ _).alloc (Nat.le_refl _) o
 have CN := dH fun W => number_wide e o h1 h2 h3 h4 W
 have Y0 := (BxZ.new (B := w.heap.size) w [.int .i64 0, .int .i64 0, .string ⟨#[]⟩] 53 (Nat.le_refl _)).below (ba _ (.cells #[.int .i64 e, .int .i64 o] 164))
 have B0 := bT (ba w (.cells #[.int .i64 0, .int .i64 0, .string ⟨#[]⟩] 53)) (ba _ (.cells #[.int .i64 e, .int .i64 o] 164))
 have hsz : Hid (((w.alloc (.cells #[.int .i64 0, .int .i64 0, .string ⟨#[]⟩] 53)).alloc (.cells #[.int .i64 e, .int .i64 o] 164)).heap.size = w.heap.size + 2) := by simp [Hid]
 clear h1 h2 h3 h4
 go_enter Tryz.func105, Tryz.ntmps105
 go_wp2_with fail
 generalize ((w.alloc (.cells #[.int .i64 0, .int .i64 0, .string ⟨#[]⟩] 53)).alloc (.cells #[.int .i64 e, .int .i64 o] 164)) = w2 at *
 refine (dU CN _).mono ?_
 rintro e' w1 ⟨rfl, b1⟩
 have Y1 := Y0.below b1
 have YY := dH ((((Y0.below b1).put 0 (.int .i64 3)).put 1 (.int .i64 (e * 4294967296 + o))).put 2 (.string ⟨#[]⟩))
 have BB := dH ((((bT B0 b1).setCell (p := ⟨w.heap.size, 0, none⟩) (by simp) (.int .i64 3)).setCell (p := ⟨w.heap.size, 1, none⟩) (by simp) (.int .i64 (e * 4294967296 + o))).setCell (p := ⟨w.heap.size, 2, none⟩) (by simp) (.string ⟨#[]⟩))
 obtain ⟨z0, f0⟩ := Y1.2 0 _ rfl
 obtain ⟨z1, f1⟩ := Y1.2 1 _ rfl
 obtain ⟨z2, f2⟩ := Y1.2 2 _ rfl
 clear CN Y0 Y1 B0 b1
 go_wp2_with fail
 generalize (((w1.setCell ⟨w.heap.size, 0, none⟩ (.int .i64 3)).setCell ⟨w.heap.size, 1, none⟩ (.int .i64 (e * 4294967296 + o))).setCell ⟨w.heap.size, 2, none⟩ (.string ⟨#[]⟩)) = V at *
 have q0 := ((dU YY).2 0 _ rfl).1
 have q1 := ((dU YY).2 1 _ rfl).1
 have q2 := ((dU YY).2 2 _ rfl).1
 exact bodyPost_ret (v := .agg #[.int .i64 3, .int .i64 (e * 4294967296 + o), .string ⟨#[]⟩]) (by simp [results, Tryz.results105, go_sem, q0, q1, q2]) rfl ⟨rfl, dU BB⟩
set_option maxHeartbeats 2000000 in
theorem eventOf_era (n : Int) (w : World) : Calls Tryz.prog 105 #[(Hap.era n).val] w fun e w' => e = .returned (Hap.era n).ev.val ∧ Below w.heap.size w w' := by
 show Calls Tryz.prog 105 #[.iface 132 (.agg #[.int .i64 n])] w fun e w' => e = .returned (.agg #[.int .i64 4, .int .i64 n, .string ⟨#[]⟩]) ∧ Below w.heap.size w w'
 have ta0 : ∀ w, (Instr.typeAssert (.iface 132 (.agg #[.int .i64 n])) 89 167 true).run Tryz.prog w = .ok (.tuple #[.agg #[.int .i64 0, .int .i64 0, .string ⟨#[]⟩], .bool false]) w := fun w => by kernel_rfl
 have ta1 : ∀ w, (Instr.typeAssert (.iface 132 (.agg #[.int .i64 n])) 89 165 true).run Tryz.prog w = .ok (.tuple #[.agg #[.int .i64 0, .int .i64 0], .bool false]) w := fun w => by kernel_rfl
 have ta2 : ∀ w, (Instr.typeAssert (.iface 132 (.agg #[.int .i64 n])) 89 164 true).run Tryz.prog w = .ok (.tuple #[.agg #[.int .i64 0, .int .i64 0], .bool false]) w := fun w => by kernel_rfl
 have ta3 : ∀ w, (Instr.typeAssert (.iface 132 (.agg #[.int .i64 n])) 89 132 true).run Tryz.prog w = .ok (.tuple #[.agg #[.int .i64 n], .bool true]) w := fun w => by kernel_rfl
 go_enter Tryz.func105, Tryz.ntmps105
 go_wp2
 go_returns
 exact ⟨rfl, by go_grown⟩
set_option maxHeartbeats 4000000 in
theorem eventOf_trim (e o : Int) (hf : (Hap.trim e o).fits) (w : World) : Calls Tryz.prog 105 #[(Hap.trim e o).val] w fun e' w' => e' = .returned (Hap.trim e o).ev.val ∧ Below w.heap.size w w' := by
 obtain ⟨⟨h1, h2⟩, h3, h4⟩ := hf
 show Calls Tryz.prog 105 #[.iface 130 (.agg #[.int .i64 e, .int .i64 o])] w fun e' w' => e' = .returned (.agg #[.int .i64 5, .int .i64 (e * 4294967296 + o), .string ⟨#[]⟩]) ∧ Below w.heap.size w w'
 have ta0 : ∀ w, (Instr.typeAssert (.iface 130 (.agg #[.int .i64 e, .int .i64 o])) 89 167 true).run Tryz.prog w = .ok (.tuple #[.agg #[.int .i64 0, .int .i64 0, .string ⟨#[]⟩], .bool false]) w := fun w => by kernel_rfl
 have ta1 : ∀ w, (Instr.typeAssert (.iface 130 (.agg #[.int .i64 e, .int .i64 o])) 89 165 true).run Tryz.prog w = .ok (.tuple #[.agg #[.int .i64 0, .int .i64 0], .bool false]) w := fun w => by kernel_rfl
 have ta2 : ∀ w, (Instr.typeAssert (.iface 130 (.agg #[.int .i64 e, .int .i64 o])) 89 164 true).run Tryz.prog w = .ok (.tuple #[.agg #[.int .i64 0, .int .i64 0], .bool false]) w := fun w => by kernel_rfl
 have ta3 : ∀ w, (Instr.typeAssert (.iface 130 (.agg #[.int .i64 e, .int .i64 o])) 89 132 true).run Tryz.prog w = .ok (.tuple #[.agg #[.int .i64 0], .bool false]) w := fun w => by kernel_rfl
 have ta4 : ∀ w, (Instr.typeAssert (.iface 130 (.agg #[.int .i64 e, .int .i64 o])) 89 130 true).run Tryz.prog w = .ok (.tuple #[.agg #[.int .i64 e, .int .i64 o], .bool true]) w := fun w => by kernel_rfl
 have ba : ∀ (w : World) o, Below w.heap.size w (w.alloc o) := fun w o => (Below.refl _ _).alloc (Nat.le_refl _) o
 have CN := dH fun W => number_wide e o h1 h2 h3 h4 W
 have Y0 := (BxZ.new (B := w.heap.size) w [.int .i64 0, .int .i64 0, .string ⟨#[]⟩] 53 (Nat.le_refl _)).below (ba _ (.cells #[.int .i64 e, .int .i64 o] 130))
 have B0 := bT (ba w (.cells #[.int .i64 0, .int .i64 0, .string ⟨#[]⟩] 53)) (ba _ (.cells #[.int .i64 e, .int .i64 o] 130))
 have hsz : Hid (((w.alloc (.cells #[.int .i64 0, .int .i64 0, .string ⟨#[]⟩] 53)).alloc (.cells #[.int .i64 e, .int .i64 o] 130)).heap.size = w.heap.size + 2) := by simp [Hid]
 clear h1 h2 h3 h4
 go_enter Tryz.func105, Tryz.ntmps105
 go_wp2_with fail
 generalize ((w.alloc (.cells #[.int .i64 0, .int .i64 0, .string ⟨#[]⟩] 53)).alloc (.cells #[.int .i64 e, .int .i64 o] 130)) = w2 at *
 refine (dU CN _).mono ?_
 rintro e' w1 ⟨rfl, b1⟩
 have Y1 := Y0.below b1
 have YY := dH ((((Y0.below b1).put 0 (.int .i64 5)).put 1 (.int .i64 (e * 4294967296 + o))).put 2 (.string ⟨#[]⟩))
 have BB := dH ((((bT B0 b1).setCell (p := ⟨w.heap.size, 0, none⟩) (by simp) (.int .i64 5)).setCell (p := ⟨w.heap.size, 1, none⟩) (by simp) (.int .i64 (e * 4294967296 + o))).setCell (p := ⟨w.heap.size, 2, none⟩) (by simp) (.string ⟨#[]⟩))
 obtain ⟨z0, f0⟩ := Y1.2 0 _ rfl
 obtain ⟨z1, f1⟩ := Y1.2 1 _ rfl
 obtain ⟨z2, f2⟩ := Y1.2 2 _ rfl
 clear CN Y0 Y1 B0 b1
 go_wp2_with fail
 generalize (((w1.setCell ⟨w.heap.size, 0, none⟩ (.int .i64 5)).setCell ⟨w.heap.size, 1, none⟩ (.int .i64 (e * 4294967296 + o))).setCell ⟨w.heap.size, 2, none⟩ (.string ⟨#[]⟩)) = V at *
 have q0 := ((dU YY).2 0 _ rfl).1
 have q1 := ((dU YY).2 1 _ rfl).1
 have q2 := ((dU YY).2 2 _ rfl).1
 exact bodyPost_ret (v := .agg #[.int .i64 5, .int .i64 (e * 4294967296 + o), .string ⟨#[]⟩]) (by simp [results, Tryz.results105, go_sem, q0, q1, q2]) rfl ⟨rfl, dU BB⟩
theorem eventOf_any (h : Hap) (hf : h.fits) (w : World) : Calls Tryz.prog 105 #[h.val] w fun e w' => e = .returned h.ev.val ∧ Below w.heap.size w w' := by
 cases h with
 | data e o d => exact eventOf_data e o d hf w
 | hole e o => exact eventOf_hole e o hf w
 | loss e o => exact eventOf_loss e o hf w
 | era n => exact eventOf_era n w
 | trim e o => exact eventOf_trim e o hf w
theorem behind_passed (e o : Int) (h1 : 0 ≤ o) (h2 : o ≤ 70) (w : World) : Calls Tryz.prog 208 #[.agg #[.int .i64 e, .int .i64 o]] w fun e' w' => e' = .returned (.agg #[.int .i64 e, .int .i64 (o + 1)]) ∧ Below w.heap.size w w' := by
 go_enter Tryz.func208, Tryz.ntmps208
 go_wp2
 go_returns
 exact ⟨rfl, by go_grown⟩
theorem behind_era (n : Int) (w : World) : Calls Tryz.prog 209 #[.agg #[.int .i64 n]] w fun e' w' => e' = .returned (.agg #[.int .i64 n, .int .i64 1]) ∧ Below w.heap.size w w' := by
 go_enter Tryz.func209, Tryz.ntmps209
 go_wp2
 go_returns
 exact ⟨rfl, by go_grown⟩
def hapB (ep off : Int) : Option Ent → Hap
 | none => .loss ep off
 | some b => if b.hole then .hole ep off else .data ep off b.data
theorem hapB_fits {ep off : Int} (h1 : 0 ≤ ep ∧ ep ≤ 40) (h2 : 0 ≤ off ∧ off ≤ 70) (o : Option Ent) : (hapB ep off o).fits := by
 cases o with
 | none => exact ⟨h1, h2⟩
 | some b =>
  unfold hapB
  simp only
  split
  ·exact ⟨h1, h2⟩
  ·exact ⟨h1, h2⟩
theorem hapB_ev (ep off : Int) (o : Option Ent) : (hapB ep off o).ev = evO (ep * 4294967296 + off) o := by
 cases o with
 | none => rfl
 | some b =>
  unfold hapB evO
  simp only
  split <;> rfl
theorem hapB_on (ep off : Int) (o : Option Ent) : (hapB ep off o).on = (ep, off + 1) := by
 cases o with
 | none => rfl
 | some b =>
  unfold hapB
  simp only
  split <;> rfl
set_option maxHeartbeats 8000000 in
theorem bestAt_any (v : Value) (ep off : Int) (l : List Aw) (w : World) (hv : RdAnswerS v l w) (hl : l.length ≤ 1048576) (hf : ∀ a ∈ l, fitAw a) (h1 : 0 ≤ ep) (h2 : ep ≤ 40) (h3 : 0 ≤ off) (h4 : off ≤ 70) :
  Calls Tryz.prog 103 #[.agg #[.int .i64 ep, .int .i64 off], v] w fun e w' => e = .returned (hapB ep off (bestO (entL (ep * 4294967296 + off) l))).val ∧ Below w.heap.size w w' := by
 have ba : ∀ (w : World) o, Below w.heap.size w (w.alloc o) := fun w o => (Below.refl _ _).alloc (Nat.le_refl _) o
 have CN := dH fun W => number_wide ep off h1 h2 h3 h4 W
 have CE := dH fun W (hb : Below w.heap.size w W) => entriesAt_any v (ep * 4294967296 + off) l W (hv.below hb) hl hf
 obtain ⟨a, cap, rfl, -⟩ := formAnswerS hv
 generalize entL (ep * 4294967296 + off) l = es at *
 have B0 := ba w (.cells #[.int .i64 ep, .int .i64 off] 76)
 have H0 := Bx.new w [.int .i64 ep, .int .i64 off] 76
 have hs0 : Hid ((w.alloc (.cells #[.int .i64 ep, .int .i64 off] 76)).heap.size = w.heap.size + 1) := by simp [Hid]
 clear hv hf h1 h2 h3 h4
 go_enter Tryz.func103, Tryz.ntmps103
 go_wp2_with fail
 generalize w.alloc (.cells #[.int .i64 ep, .int .i64 off] 76) = w0 at *
 refine (dU CN _).mono ?_
 rintro e w1 ⟨rfl, b1⟩
 have B1 := bT B0 b1
 clear CN
 go_wp2_with fail
 refine (dU CE _ B1).mono ?_
 rintro e w2 ⟨⟨u, rfl, R2⟩, b2⟩
 have B2 := bT B1 b2
 have H2 := (H0.below b1).below b2
 have hs2 : w.heap.size < w2.heap.size := dCell_lt (H2 0 _ rfl)
 clear CE B1 B0 H0 b1 b2 hs0
 obtain ⟨hle, ua, uc, rfl, huc, -⟩ := id R2
 cases es with
 | nil =>
  obtain ⟨v0, v1⟩ : _ ∧ _ := ⟨H2 0 _ rfl, H2 1 _ rfl⟩
  simp only [List.length_nil]
  clear R2 H2
  go_wp2
  go_ret
  exact ⟨rfl, B2⟩
 | cons x tl =>
  obtain ⟨b, of, rfl, hc⟩ := Rw.ent R2 (show 0 < (x :: tl).length by simp)
  obtain ⟨c0, c1, c2, c3⟩ := hc 0 (by simp)
  simp only [List.getElem_cons_zero, Nat.zero_mul, Nat.add_zero] at c0 c1 c2 c3
  have HNB : Hid (b < w2.heap.size) := dCell_lt c0
  have HC : Hid (∀ W, Below w2.heap.size w2 W → ∀ k (hk : k < tl.length), EntAt W b (of + 4 + k * 4) tl[k]) := fun W hW k hk => by
   have q := (hc (k + 1) (by simpa using hk)).below hW
   rw [show of + (k + 1) * 4 = of + 4 + k * 4 by omega] at q
   simpa using q
  have GO : Hid (∀ best, List.foldl better x tl = best → hapB ep off (bestO (x :: tl)) = if best.hole then .hole ep off else .data ep off best.data) := fun best h => by
   unfold bestO hapB
   simp only
   rw [h]
  simp only [List.length_cons] at *
  have X3 := BxZ.new (B := w.heap.size) w2 [.int .i64 x.pl, .int .i64 x.wave, .bool x.hole, .string x.data] 36 (by omega)
  have bE := ba w2 (.cells #[.int .i64 x.pl, .int .i64 x.wave, .bool x.hole, .string x.data] 36)
  have B3 := bT B2 bE
  have H3 := H2.below bE
  have HC3 := dH fun W (hW : Below (w2.alloc (.cells #[.int .i64 x.pl, .int .i64 x.wave, .bool x.hole, .string x.data] 36)).heap.size (w2.alloc (.cells #[.int .i64 x.pl, .int .i64 x.wave, .bool x.hole, .string x.data] 36)) W) => dU HC W (bT bE hW)
  have hs3 : (w2.alloc (.cells #[.int .i64 x.pl, .int .i64 x.wave, .bool x.hole, .string x.data] 36)).heap.size = w2.heap.size + 1 := by simp
  have HS3 := dH hs3
  have HX3 := dH X3
  have HH3 := dH H3
  clear X3 bE H3 H2 hc HC R2 hs3 B2
  have hz0 : (((tl.length : Nat) : Int) + 1 == 0) = false := by rw [beq_eq_false_iff_ne]; omega
  by_cases hc1 : uc = 1
  ·obtain rfl : tl = [] := List.length_eq_zero_iff.1 (by omega)
   subst hc1
   simp only [List.length_nil, List.foldl_nil] at *
   go_wp2
   generalize w2.alloc (.cells #[.int .i64 x.pl, .int .i64 x.wave, .bool x.hole, .string x.data] 36) = w3 at *
   clear c0 c1 c2 c3
   obtain ⟨p0, p1, p2, p3⟩ := x
   simp only at *
   have hB : Hid (({ pl := p0, wave := p1, hole := p2, data := p3 } : Ent) = ⟨p0, p1, p2, p3⟩) := rfl
   go_loopw [26] (fun y wr => y = .int .i64 0 ∧ wr = w3) (fun _ _ => 0)
   case atStart => exact ⟨rfl, rfl⟩
   case round =>
    obtain ⟨rfl, rfl⟩ := hrel
    have hX := HX3
    have hH := HH3
    have hb := B3
    clear HX3 HH3 HC3 HS3
    have e9 := dU GO _ (dU hB)
    simp only at e9
    obtain ⟨g2, -⟩ := (dU hX).2 2 _ rfl
    obtain ⟨g3, -⟩ := (dU hX).2 3 _ rfl
    obtain ⟨v0, v1⟩ : _ ∧ _ := ⟨dU hH 0 _ rfl, dU hH 1 _ rfl⟩
    clear hB hX hH GO
    cases p2
    ·simp only [Bool.false_eq_true, if_false] at e9
     have E9 := dH e9
     clear e9
     go_wp2
     go_ret
     exact ⟨by rw [dU E9]; rfl, hb⟩
    ·simp only [if_true] at e9
     have E9 := dH e9
     clear e9
     go_wp2
     go_ret
     exact ⟨by rw [dU E9]; rfl, hb⟩
  ·have hc2 : 1 < uc := by omega
   have hlt1 : (1 : Int) < (uc : Int) := by omega
   go_wp2
   generalize w2.alloc (.cells #[.int .i64 x.pl, .int .i64 x.wave, .bool x.hole, .string x.data] 36) = w3 at *
   generalize hbx : w2.heap.size = bx at *
   clear c0 c1 c2 c3
   have hNB : Hid (∀ k, k < tl.length → b < bx) := fun k hk => dU HNB
   go_loopw [26] (fun y wr => ∃ (k : Nat) (best : Ent), y = .int .i64 (k : Int) ∧ k ≤ tl.length ∧ Hid (List.foldl better x (tl.take k) = best) ∧ Hid (BxZ wr w.heap.size bx [.int .i64 best.pl, .int .i64 best.wave, .bool best.hole, .string best.data]) ∧ Hid (Bx wr w.heap.size [.int .i64 ep, .int .i64 off]) ∧ Hid (∀ W, Below wr.heap.size wr W → ∀ k (hk : k < tl.length), EntAt W b (of + 4 + k * 4) tl[k]) ∧ Below w.heap.size w wr) (fun y _ => tl.length - (intOf y).toNat)
   case atStart => exact ⟨0, x, rfl, Nat.zero_le _, rfl, HX3, HH3, HC3, B3⟩
   case round =>
    obtain ⟨k, ⟨p0, p1, p2, p3⟩, rfl, hk, hB, hX, hH, hC, hb⟩ := hrel
    clear HX3 HH3 HC3 B3
    simp only at hX
    by_cases hlt : (k : Int) < (tl.length : Int)
    ·have hkl : k < tl.length := by omega
     obtain ⟨c0, c1, c2, c3⟩ := dU hC wr (Below.refl _ _) k hkl
     have GB : Hid (List.foldl better x (tl.take (k + 1)) = better ⟨p0, p1, p2, p3⟩ tl[k]) := by
      rw [Hid, List.take_succ_eq_append_getElem hkl, List.foldl_append, dU hB]
      rfl
     have hbxw : bx < wr.heap.size := (dU hX).lt
     have hbxg : w.heap.size ≤ bx := (dU hX).1
     have hcb : bx ≠ b := fun e => by
      have q := dU hNB k hkl
      omega
     generalize hyk : tl[k] = y at c0 c1 c2 c3 GB
     obtain ⟨y0, y1, y2, y3⟩ := y
     simp only at c0 c1 c2 c3
     have CB := dH (implBetter_any ⟨p0, p1, p2, p3⟩ ⟨y0, y1, y2, y3⟩)
     generalize better ⟨p0, p1, p2, p3⟩ ⟨y0, y1, y2, y3⟩ = nb at *
     obtain ⟨n0, n1, n2, n3⟩ := nb
     unfold Ent.val at CB
     simp only at CB
     have bA := ba wr (.cells #[.int .i64 y0, .int .i64 y1, .bool y2, .string y3] 36)
     have X1 := (dU hX).below bA
     have H1 := (dU hH).below bA
     have E1 := Bx.new wr [.int .i64 y0, .int .i64 y1, .bool y2, .string y3] 36
     have B1 := bT hb bA
     obtain ⟨q0, q1, q2, q3⟩ : _ ∧ _ ∧ _ ∧ _ := ⟨(X1.2 0 _ rfl).1, (X1.2 1 _ rfl).1, (X1.2 2 _ rfl).1, (X1.2 3 _ rfl).1⟩
     obtain ⟨r0, r1, r2, r3⟩ : _ ∧ _ ∧ _ ∧ _ := ⟨E1 0 _ rfl, E1 1 _ rfl, E1 2 _ rfl, E1 3 _ rfl⟩
     have hC1 := dH fun W (hW : Below (wr.alloc (.cells #[.int .i64 y0, .int .i64 y1, .bool y2, .string y3] 36)).heap.size (wr.alloc (.cells #[.int .i64 y0, .int .i64 y1, .bool y2, .string y3] 36)) W) => dU hC W (bT bA hW)
     clear hyk E1 bA hX hH hC hB hb
     go_wp2_with fail
     generalize wr.alloc (.cells #[.int .i64 y0, .int .i64 y1, .bool y2, .string y3] 36) = w5 at *
     clear c0 c1 c2 c3
     refine (dU CB _).mono ?_
     rintro e w6 ⟨rfl, b6⟩
     have X6 := X1.below b6
     obtain ⟨z0, f0⟩ := X6.2 0 _ rfl
     obtain ⟨z1, f1⟩ := X6.2 1 _ rfl
     obtain ⟨z2, f2⟩ := X6.2 2 _ rfl
     obtain ⟨z3, f3⟩ := X6.2 3 _ rfl
     have X7 := dH ((((X6.put 0 (.int .i64 n0)).put 1 (.int .i64 n1)).put 2 (.bool n2)).put 3 (.string n3))
     have H7 := dH (((((H1.below b6).farQ (b' := bx) (o := 0) (by omega) (.int .i64 n0)).farQ (b' := bx) (o := 1) (by omega) (.int .i64 n1)).farQ (b' := bx) (o := 2) (by omega) (.bool n2)).farQ (b' := bx) (o := 3) (by omega) (.string n3))
     have B7 := (((((bT B1 b6).setCell (p := ⟨bx, 0, none⟩) (by simp only; omega) (.int .i64 n0)).setCell (p := ⟨bx, 1, none⟩) (by simp only; omega) (.int .i64 n1)).setCell (p := ⟨bx, 2, none⟩) (by simp only; omega) (.bool n2)).setCell (p := ⟨bx, 3, none⟩) (by simp only; omega) (.string n3))
     have C7 : Hid (∀ W, Below ((((w6.setCell ⟨bx, 0, none⟩ (.int .i64 n0)).setCell ⟨bx, 1, none⟩ (.int .i64 n1)).setCell ⟨bx, 2, none⟩ (.bool n2)).setCell ⟨bx, 3, none⟩ (.string n3)).heap.size ((((w6.setCell ⟨bx, 0, none⟩ (.int .i64 n0)).setCell ⟨bx, 1, none⟩ (.int .i64 n1)).setCell ⟨bx, 2, none⟩ (.bool n2)).setCell ⟨bx, 3, none⟩ (.string n3)) W → ∀ k (hk : k < tl.length), EntAt W b (of + 4 + k * 4) tl[k]) := fun W hW k hk => by
      obtain ⟨d0, d1, d2, d3⟩ := dU hC1 w6 b6 k hk
      have fr : ∀ o (u : Value), w6.cell? ⟨b, o, none⟩ = some u → ((((w6.setCell ⟨bx, 0, none⟩ (.int .i64 n0)).setCell ⟨bx, 1, none⟩ (.int .i64 n1)).setCell ⟨bx, 2, none⟩ (.bool n2)).setCell ⟨bx, 3, none⟩ (.string n3)).cell? ⟨b, o, none⟩ = some u := fun o u h => sO (sO (sO (sO h (.inl (Ne.symm hcb))) (.inl (Ne.symm hcb))) (.inl (Ne.symm hcb))) (.inl (Ne.symm hcb))
      exact EntAt.below ⟨fr _ _ d0, fr _ _ d1, fr _ _ d2, fr _ _ d3⟩ hW
     clear CB X6 X1 H1 B1 b6 hC1 q0 q1 q2 q3 r0 r1 r2 r3
     go_wp2
     go_roundw
     case rel => exact ⟨k + 1, ⟨n0, n1, n2, n3⟩, by go_num, by omega, GB, X7, H7, C7, B7⟩
     case measure => simp [intOf]; omega
    ·have e1 : tl.take k = tl := List.take_of_length_le (by omega)
     rw [e1] at hB
     clear hC e1 HS3
     have e9 := dU GO _ (dU hB)
     simp only at e9
     obtain ⟨g2, -⟩ := (dU hX).2 2 _ rfl
     obtain ⟨g3, -⟩ := (dU hX).2 3 _ rfl
     obtain ⟨v0, v1⟩ : _ ∧ _ := ⟨dU hH 0 _ rfl, dU hH 1 _ rfl⟩
     clear hB hX hH GO
     cases p2
     ·simp only [Bool.false_eq_true, if_false] at e9
      have E9 := dH e9
      clear e9
      go_wp2
      go_ret
      exact ⟨by rw [dU E9]; rfl, hb⟩
     ·simp only [if_true] at e9
      have E9 := dH e9
      clear e9
      go_wp2
      go_ret
      exact ⟨by rw [dU E9]; rfl, hb⟩
end Go.Proofs.YtjkjmapibcfcdaaGreat
