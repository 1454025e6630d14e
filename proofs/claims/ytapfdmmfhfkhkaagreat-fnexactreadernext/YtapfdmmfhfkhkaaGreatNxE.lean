/- Readers: impl's answeringNodes, answersFrom, entriesAt, bestAt. -/
import Derived.Test.YtapfdmmfhfkhkaaGreatNxA
import Derived.Test.YtapfdmmfhfkhkaaGreatNxD
import Derived.Test.YtapfdmmfhfkhkaaGreatDedP
import Derived.Test.YtapfdmmfhfkhkaaGreatGbI
import Derived.Test.YtapfdmmfhfkhkaaGreatGbG
import Derived.Test.YtapfdmmfhfkhkaaGreatOpenV
import Derived.Deep.RegionHeld3
import Derived.Deep.DeepCutAuto
namespace Go.Proofs.YtapfdmmfhfkhkaaGreat
open Go.ChangeShapes Go.WideShapes Go.ChangeAt Go.RowKit
set_option linter.unusedVariables false
set_option linter.unusedSimpArgs false
set_option maxRecDepth 100000

/-- An answer of ints. -/
def fitAw (a : Aw) : Prop := (-9223372036854775808 ≤ a.node ∧ a.node ≤ 9223372036854775807) ∧ a.ent.fits
theorem CopyInvN.below {w wr wr' : World} {g k : Nat} {bs : List Int} (h : CopyInvN w wr g k bs) (hb : Below wr.heap.size wr wr') : CopyInvN w wr' g k bs := by
  obtain ⟨h1, h2, h3, h4, h5⟩ := h
  refine ⟨fun i hi => ?_, h2, belowThen h3 hb, h4, Nat.lt_of_lt_of_le h5 hb.size⟩
  obtain ⟨c, c1, c2, c3⟩ := h1 i hi
  exact ⟨c, (hb.cell (p := ⟨g, i, none⟩) h5).trans c1, c2, (hb.frozen (p := ⟨g, i, none⟩) h5).trans c3⟩
set_option maxHeartbeats 2000000 in
theorem answeringNodes_any (v : Value) (l : List Aw) (w : World) (hv : RdAnswerS v l w) (hl : l.length ≤ 1048576) :
    Calls Tryz.prog 97 #[v] w fun e w' => (∃ u, e = .returned u ∧ OwnN w' w.heap.size u (l.map Aw.node)) ∧ Below w.heap.size w w' := by
  have HV := dHide fun W (hb : Below w.heap.size w W) => RdAnswerS.below hv hb
  obtain ⟨a, cap, rfl, -⟩ := formAnswerS hv
  have hmk := makeN l.length (by omega)
  have hlm : (l.map Aw.node).length = l.length := List.length_map ..
  have HLM := dHide hlm
  have ST : Hid (CopyInvN w (w.alloc (.cells (zerosN l.length) 3)) w.heap.size 0 (l.map Aw.node)) := by
    have := CopyInvN.start (w := w) (bs := l.map Aw.node)
    rw [hlm] at this
    exact this
  clear hv hlm
  go_enter Tryz.func97, Tryz.ntmps97
  go_wp2
  go_loopw [11] (fun x wr => ∃ k : Nat, x = .int .i64 (k : Int) ∧ k ≤ l.length ∧ Hid (CopyInvN w wr w.heap.size k (l.map Aw.node))) (fun x _ => l.length - (intOf x).toNat)
  case atStart => exact ⟨0, rfl, Nat.zero_le _, ST⟩
  case round =>
    obtain ⟨k, rfl, hk, hinv⟩ := hrel
    by_cases hlt : (k : Int) < (l.length : Int)
    · have hkl : k < l.length := by omega
      have hb := (dUnhide hinv).2.2.1
      obtain ⟨b, off, rfl, hc⟩ := (dUnhide HV wr hb).atAw hkl
      obtain ⟨c0, c1, c2, c3, c4, c5⟩ := hc k hkl
      have hkm : k < (l.map Aw.node).length := by rw [dUnhide HLM]; exact hkl
      have ek : l[k].node = (l.map Aw.node)[k] := by rw [List.getElem_map]
      have EK := dHide ek
      clear ek hc
      generalize hy : l[k] = y at *
      obtain ⟨y0, y1, ⟨y2, y3, y4, y5⟩⟩ := y
      simp only at c0 c1 c2 c3 c4 c5 EK
      clear hy
      have bA := (Below.refl wr.heap.size wr).alloc (Nat.le_refl _) (.cells #[.int .i64 y0, .bool y1, .int .i64 y2, .int .i64 y3, .bool y4, .string y5] 68)
      have I1 : Hid (CopyInvN w (wr.alloc (.cells #[.int .i64 y0, .bool y1, .int .i64 y2, .int .i64 y3, .bool y4, .string y5] 68)) w.heap.size k (l.map Aw.node)) := (dUnhide hinv).below bA
      obtain ⟨⟨c, c9⟩, f9⟩ := CopyInvN.now I1 hkm
      have I2 := dHide ((CopyInvN.step hinv hkm (dUnhide EK)).below ((Below.refl _ _).alloc (Nat.le_refl _) (.cells #[.int .i64 y0, .bool y1, .int .i64 y2, .int .i64 y3, .bool y4, .string y5] 68)))
      have hlt0 := (dUnhide hinv).2.2.2.2
      clear hinv I1 hb EK bA
      go_wp2
      go_roundw
      case rel => exact ⟨k + 1, by go_num, by omega, I2⟩
      case measure => simp [intOf]; omega
    · have ek : k = (l.map Aw.node).length := by rw [dUnhide HLM]; omega
      rw [ek] at hinv
      have O := CopyInvN.done hinv (by rw [dUnhide HLM]; omega)
      have hb := (dUnhide hinv).2.2.1
      rw [dUnhide HLM] at O
      have HO := dHide O
      clear hinv ek O
      go_wp2
      go_ret
      exact ⟨⟨_, rfl, dUnhide HO⟩, hb⟩
theorem fromFn (z : Aw) (bn sb : Nat) (xs : List Int) (W : World) (hc : W.cell? ⟨bn, 0, none⟩ = some (.map (some sb))) (hS : SetN W sb xs) (hz : -9223372036854775808 ≤ z.node ∧ z.node ≤ 9223372036854775807) :
    Calls Tryz.prog 204 (#[z.val] ++ #[.pointer (some ⟨bn, 0, none⟩)]) W fun e w' => e = .returned (.bool (decide (z.node ∉ xs))) ∧ Below W.heap.size W w' := by
  have ba : ∀ o, Below W.heap.size W (W.alloc o) := fun o => (Below.refl _ _).alloc (Nat.le_refl _) o
  obtain ⟨y0, y1, ⟨y2, y3, y4, y5⟩⟩ := z
  show Calls Tryz.prog 204 #[.agg #[.int .i64 y0, .bool y1, .int .i64 y2, .int .i64 y3, .bool y4, .string y5], .pointer (some ⟨bn, 0, none⟩)] W _
  simp only at *
  have CH := dHide fun o => setHas_any sb xs y0 (W.alloc o) (hS.below (ba o)) hz
  have c1 := fun o => ((ba o).cell (p := ⟨bn, 0, none⟩) (dCell_lt hc)).trans hc
  clear hS
  go_enter Tryz.func204, Tryz.ntmps204
  go_wp2_with fail
  refine (dUnhide CH _).mono ?_
  rintro e w1 ⟨⟨b1, rfl, h1⟩, b2⟩
  have E : Hid ((!b1) = decide (y0 ∉ xs)) := by
    show _ = _
    cases b1
    · have : y0 ∉ xs := fun h => by have := h1.2 h; cases this
      simp [this]
    · have := h1.1 rfl
      simp [this]
  clear CH h1 c1 hc
  go_wp2
  go_ret
  exact ⟨by rw [dUnhide E]; rfl, belowThen (ba _) b2⟩
/-- Those of the nodes of a set. -/
def fromL (set : List Int) (l : List Aw) : List Aw := l.filter fun a => decide (a.node ∈ set)
set_option maxHeartbeats 4000000 in
theorem answersFrom_any (sv v : Value) (set : List Int) (l : List Aw) (w : World) (hs : Ns w sv set) (hv : RdAnswerS v l w) (ha : allInt set) (hsl : set.length ≤ 1048576) (hl : l.length ≤ 1048576) (hf : ∀ a ∈ l, fitAw a) :
    Calls Tryz.prog 168 #[sv, v] w fun e w' => (∃ u, e = .returned u ∧ RdAnswerS u (fromL set l) w') ∧ Below w.heap.size w w' := by
  have CS := dHide (setOf_any sv set w hs ha hsl)
  have HV := dHide fun W (hb : Below w.heap.size w W) => RdAnswerS.below hv hb
  obtain ⟨-, sa, sc, rfl, -, -⟩ := hs
  obtain ⟨va, vc, rfl, -⟩ := formAnswerS hv
  have HF := dHide fun z (hz : z ∈ l) => (hf z hz).1
  have EQ : Hid (flZ (fun z : Aw => decide (z.node ∉ dedL set)) l = fromL set l) := by
    unfold flZ fromL
    apply List.filter_congr
    intro x hx
    by_cases h : x.node ∈ set
    · have h' := mem_dedL.2 h
      simp [h, h']
    · have h' : x.node ∉ dedL set := fun q => h (mem_dedL.1 q)
      simp [h, h']
  clear hv hf ha hsl
  go_enter Tryz.func168, Tryz.ntmps168
  go_wp2_with fail
  refine (dUnhide CS).mono ?_
  rintro e w1 ⟨rfl, S1, b1⟩
  clear CS
  have bA := (Below.refl w1.heap.size w1).alloc (Nat.le_refl _) (.cells #[.map (some w.heap.size)] 150)
  have S2 := dHide (S1.below bA)
  have X2 := Bx.new w1 [.map (some w.heap.size)] 150
  have B2 := belowThen b1 bA
  have hs1 : w.heap.size < w1.heap.size := S1.lt
  have CC := dHide (cloneA_any _ l _ (dUnhide HV _ B2) hl)
  have hs2 : Hid ((w1.alloc (.cells #[.map (some w.heap.size)] 150)).heap.size = w1.heap.size + 1) := by simp [Hid]
  clear S1 HV bA b1
  go_wp2_with fail
  generalize w1.alloc (.cells #[.map (some w.heap.size)] 150) = w2 at *
  generalize hbn : w1.heap.size = bn at *
  refine (dUnhide CC).mono ?_
  rintro e w3 ⟨⟨u3, rfl, A3⟩, b3⟩
  clear CC
  obtain ⟨ua, uc, rfl⟩ := ApR.slice elemAnswer A3
  have O3 := ApR.own elemAnswer A3
  have S3 := (dUnhide S2).below b3
  have x3 := X2.below b3 0 _ rfl
  have B3 := belowThen B2 b3
  have h2 := dUnhide hs2
  have hge : l ≠ [] → w2.heap.size ≤ blockOf (.slice ua l.length uc) := fun hne => (O3.geZ).resolve_left hne
  have CD := dHide (deleteA_any ua uc l 204 #[.pointer (some ⟨bn, 0, none⟩)] (fun z => decide (z.node ∉ dedL set)) (fun W => SetN W w.heap.size (dedL set) ∧ W.cell? ⟨bn, 0, none⟩ = some (.map (some w.heap.size))) w2.heap.size w3 (fun _ _ => rfl) O3 ⟨S3, x3⟩ (fun W W' row hI g hr => by
    have hlt := hI.1.lt
    have hl2 := dCell_lt hI.2
    have ne1 : row ≠ some w.heap.size := by
      rcases hr with rfl | ⟨hne, rfl⟩
      · simp
      · intro e; have := Option.some.inj e; have := hge hne; omega
    have ne2 : row ≠ some bn := by
      rcases hr with rfl | ⟨hne, rfl⟩
      · simp
      · intro e; have := Option.some.inj e; have := hge hne; omega
    exact ⟨hI.1.kept g (fun e => ne1 e.symm), (World.cell?_of_block (a := ⟨bn, 0, none⟩) (g.block bn hl2 (fun e => ne2 e.symm))).trans hI.2⟩) (fun W hI z hz => fromFn z bn w.heap.size (dedL set) W hI.2 hI.1 (dUnhide HF z hz)))
  have HGE := dHide hge
  clear S2 O3 S3 x3 A3 X2 hge HF
  go_wp2_with fail
  refine (dUnhide CD).mono ?_
  rintro e w4 ⟨rfl, R4, row, g4, hr4⟩
  rw [dUnhide EQ] at R4
  have B4 : Below w.heap.size w w4 := B3.grown g4 B3.size (fun j hj => by
    rcases hr4 with rfl | ⟨hne, rfl⟩
    · cases hj
    · have := Option.some.inj hj; have := dUnhide HGE hne; omega)
  rw [dUnhide EQ]
  have HR := dHide R4
  clear CD R4 g4 hr4 EQ
  go_wp2_with fail
  go_ret
  exact ⟨⟨_, rfl, dUnhide HR⟩, B4⟩
/-- The entries at a place. -/
def entA (place : Int) (a : Aw) : Prop := a.has = true ∧ a.ent.pl = place ∧ entP a.ent
open Classical in
noncomputable def entL (place : Int) (l : List Aw) : List Ent := (l.filter fun a => decide (entA place a)).map Aw.ent
theorem entL_yes {place : Int} {l : List Aw} {k : Nat} (h : k < l.length) (hx : entA place l[k]) : entL place (l.take (k + 1)) = entL place (l.take k) ++ [l[k].ent] := by
  unfold entL
  rw [List.take_succ_eq_append_getElem h, List.filter_append, List.map_append, List.filter_cons_of_pos (by simpa using hx), List.filter_nil, List.map_cons, List.map_nil]
theorem entL_no {place : Int} {l : List Aw} {k : Nat} (h : k < l.length) (hx : ¬ entA place l[k]) : entL place (l.take (k + 1)) = entL place (l.take k) := by
  unfold entL
  rw [List.take_succ_eq_append_getElem h, List.filter_append, List.map_append, List.filter_cons_of_neg (by simpa using hx), List.filter_nil, List.map_nil, List.append_nil]
theorem entL_len (place : Int) (l : List Aw) : (entL place l).length ≤ l.length := by
  unfold entL
  rw [List.length_map]
  exact List.length_filter_le _ _
theorem entL_from (set : List Int) (place : Int) (l : List Aw) : entL place (fromL set l) = goodL set place l := by
  unfold entL fromL goodL
  rw [List.filter_filter]
  congr 1
  apply List.filter_congr
  intro a _
  have : (entA place a ∧ a.node ∈ set) ↔ goodA set place a := by
    unfold entA goodA
    constructor
    · rintro ⟨⟨h1, h2, h3⟩, h4⟩; exact ⟨h1, h4, h3, h2⟩
    · rintro ⟨h1, h4, h3, h2⟩; exact ⟨⟨h1, h2, h3⟩, h4⟩
  by_cases h : goodA set place a
  · have h' := this.2 h
    simp [h, h'.1, h'.2]
  · have h' : ¬ (entA place a ∧ a.node ∈ set) := fun q => h (this.1 q)
    by_cases h1 : entA place a
    · have h2 : a.node ∉ set := fun q => h' ⟨h1, q⟩
      simp [h, h1, h2]
    · simp [h, h1]
set_option maxHeartbeats 4000000 in
theorem entriesAt_any (v : Value) (place : Int) (l : List Aw) (w : World) (hv : RdAnswerS v l w) (hl : l.length ≤ 1048576) (hf : ∀ a ∈ l, fitAw a) :
    Calls Tryz.prog 205 #[.int .i64 place, v] w fun e w' => (∃ u, e = .returned u ∧ Rw 4 Ent.cl w' u (entL place l)) ∧ Below w.heap.size w w' := by
  have HV := dHide fun W (hb : Below w.heap.size w W) => RdAnswerS.below hv hb
  have HF := dHide fun z (hz : z ∈ l) => (hf z hz).2
  obtain ⟨a, cap, rfl, -⟩ := formAnswerS hv
  clear hv hf
  go_enter Tryz.func205, Tryz.ntmps205
  go_wp2
  go_loopw [5, 10] (fun o x wr => ∃ (k n : Nat) (oa : Option Addr) (oc : Nat), o = .slice oa n oc ∧ x = .int .i64 (k : Int) ∧ k ≤ l.length ∧ Hid (n = (entL place (l.take k)).length) ∧ Hid (ApE wr w.heap.size (.slice oa n oc) (entL place (l.take k))) ∧ Below w.heap.size w wr) (fun _ x _ => l.length - (intOf x).toNat)
  case atStart => exact ⟨0, 0, none, 0, rfl, rfl, Nat.zero_le _, by simp [Hid, entL], by rw [Hid]; exact .inl ⟨by simp [entL], none, rfl⟩, Below.refl _ _⟩
  case round =>
    obtain ⟨k, n, oa, oc, rfl, rfl, hk, hn, hA, hb⟩ := hrel
    by_cases hlt : (k : Int) < (l.length : Int)
    · have hkl : k < l.length := by omega
      obtain ⟨b, off, rfl, hc⟩ := (dUnhide HV wr hb).atAw hkl
      obtain ⟨c0, c1, c2, c3, c4, c5⟩ := hc k hkl
      have CE := dHide (implEntOk_any l[k].ent (dUnhide HF _ (List.getElem_mem hkl)))
      have GY := dHide (entL_yes (place := place) hkl)
      have GN := dHide (entL_no (place := place) hkl)
      have hnl : n ≤ 1048576 := by
        have h1 := entL_len place (l.take k)
        have h2 : (l.take k).length ≤ k := by rw [List.length_take]; omega
        have := dUnhide hn
        omega
      unfold entA at GY GN
      generalize l[k] = y at *
      obtain ⟨y0, y1, ⟨y2, y3, y4, y5⟩⟩ := y
      simp only at c0 c1 c2 c3 c4 c5 CE GY GN
      unfold Ent.val at CE
      simp only at CE
      clear hc
      have bA := (Below.refl wr.heap.size wr).alloc (Nat.le_refl _) (.cells #[.int .i64 y0, .bool y1, .int .i64 y2, .int .i64 y3, .bool y4, .string y5] 68)
      have A1 := dHide ((ApR.below (dUnhide hA) bA))
      have X1 := Bx.new wr [.int .i64 y0, .bool y1, .int .i64 y2, .int .i64 y3, .bool y4, .string y5] 68
      have B1 := belowThen hb bA
      have stay : Hid (¬ (y1 = true ∧ y2 = place ∧ entP ⟨y2, y3, y4, y5⟩) → ∀ W, Below (wr.alloc (.cells #[.int .i64 y0, .bool y1, .int .i64 y2, .int .i64 y3, .bool y4, .string y5] 68)).heap.size (wr.alloc (.cells #[.int .i64 y0, .bool y1, .int .i64 y2, .int .i64 y3, .bool y4, .string y5] 68)) W → n = (entL place (l.take (k + 1))).length ∧ ApE W w.heap.size (.slice oa n oc) (entL place (l.take (k + 1)))) := fun h W hW => by
        rw [dUnhide GN h]
        exact ⟨dUnhide hn, ApR.below (dUnhide A1) hW⟩
      have refl1 := Below.refl (wr.alloc (.cells #[.int .i64 y0, .bool y1, .int .i64 y2, .int .i64 y3, .bool y4, .string y5] 68)).heap.size (wr.alloc (.cells #[.int .i64 y0, .bool y1, .int .i64 y2, .int .i64 y3, .bool y4, .string y5] 68))
      cases y1
      · have G := dHide (dUnhide stay (fun h => by cases h.1) _ refl1)
        clear GY GN CE stay hA A1 X1 refl1 hn
        go_wp2
        go_roundw
        case rel => exact ⟨k + 1, n, oa, oc, rfl, by go_num, by omega, (dUnhide G).1, (dUnhide G).2, B1⟩
        case measure => simp [intOf]; omega
      by_cases hp : y2 = place
      case neg =>
        have hp' : (y2 == place) = false := by simpa using hp
        have G := dHide (dUnhide stay (fun h => hp h.2.1) _ refl1)
        clear GY GN CE stay hA A1 X1 refl1 hn
        go_wp2
        go_roundw
        case rel => exact ⟨k + 1, n, oa, oc, rfl, by go_num, by omega, (dUnhide G).1, (dUnhide G).2, B1⟩
        case measure => simp [intOf]; omega
      case pos =>
        have hp' : (y2 == place) = true := by simpa using hp
        have GY1 := dHide fun h => dUnhide GY ⟨by first | rfl | trivial, hp, h⟩
        have ST1 := dHide fun (h : ¬ entP ⟨y2, y3, y4, y5⟩) => dUnhide stay (fun q => h q.2.2)
        clear GY GN stay hp refl1
        go_wp2_with fail
        generalize wr.alloc (.cells #[.int .i64 y0, .bool true, .int .i64 y2, .int .i64 y3, .bool y4, .string y5] 68) = w1 at *
        refine (dUnhide CE _).mono ?_
        rintro e w2 ⟨⟨b2, rfl, h2⟩, bl2⟩
        have B2 := belowThen B1 bl2
        have X2 := X1.below bl2
        cases b2
        · have G := dHide (dUnhide ST1 (fun h => by have := h2.2 h; cases this) _ bl2)
          clear GY1 ST1 CE h2 hA A1 X1 X2 hn c0 c1 c2 c3 c4 c5 bl2
          go_wp2
          go_roundw
          case rel => exact ⟨k + 1, n, oa, oc, rfl, by go_num, by omega, (dUnhide G).1, (dUnhide G).2, B2⟩
          case measure => simp [intOf]; omega
        · have E1 := dHide (dUnhide GY1 (h2.1 rfl))
          obtain ⟨a2, a3, a4, a5⟩ : _ ∧ _ ∧ _ ∧ _ := ⟨X2 2 _ rfl, X2 3 _ rfl, X2 4 _ rfl, X2 5 _ rfl⟩
          have bE := (Below.refl w2.heap.size w2).alloc (Nat.le_refl _) (.cells #[.int .i64 y2, .int .i64 y3, .bool y4, .string y5] 36)
          have A3 := dHide (ApR.below (ApR.below (dUnhide A1) bl2) bE)
          have R3 := dHide (rw_one w2 ⟨y2, y3, y4, y5⟩ 36 1 (by omega))
          have B3 := belowThen B2 bE
          have hen : (entL place (l.take k)).length ≤ 1048576 := by have := dUnhide hn; omega
          have TG := dHide (fun j (hj : touch (.slice oa n oc) = some j) => (ApR.touched elemE (dUnhide A3) hj).1)
          have HN2 := hn
          clear GY1 ST1 CE h2 hA A1 X1 X2 hn c0 c1 c2 c3 c4 c5 bE bl2
          generalize entL place (l.take k) = es at *
          go_wp2_with (
            at_builtin
            refine wp_apR elemE rfl _ _ rfl w.heap.size _ es rfl (dUnhide A3) _ [⟨y2, y3, y4, y5⟩] rfl (dUnhide R3) (by simp; omega) (by simp; omega) (by have := B3.size; exact this) ?_
            intro u w5 O5 g5 t5
            obtain ⟨ua, uc, eu⟩ : ∃ a c, u = .slice a (n + 1) c := by
              obtain ⟨a, c, e⟩ := ApR.slice elemE O5
              exact ⟨a, c, by rw [e]; simp [dUnhide HN2]⟩
            subst eu
            have B5 := B3.grown g5 B3.size (fun j hj => dUnhide TG j hj)
            have HO5 := dHide O5
            clear O5 g5 t5)
          go_roundw
          case rel => exact ⟨k + 1, n + 1, ua, uc, rfl, by go_num, by omega, by rw [Hid, dUnhide E1, List.length_append, ← dUnhide HN2]; rfl, by rw [Hid, dUnhide E1]; exact dUnhide HO5, B5⟩
          case measure => simp [intOf]; omega
    · have e1 : l.take k = l := List.take_of_length_le (by omega)
      rw [e1] at hn hA
      have R : Hid (Rw 4 Ent.cl wr (.slice oa n oc) (entL place l)) := (ApR.own elemE (dUnhide hA)).rw
      clear hn hA e1 HV HF
      go_wp2
      go_ret
      exact ⟨⟨_, rfl, dUnhide R⟩, hb⟩
end Go.Proofs.YtapfdmmfhfkhkaaGreat
