/- impl's: a mend that is copied (printed by tools/mkmnj.py). -/
import Derived.Test.YtjkjmapibcfcdaaGreatGx5
import Derived.Test.YtjkjmapibcfcdaaGreatGw2
import Derived.Test.YtjkjmapibcfcdaaGreatGaD
import Derived.Deep.RegionHeld3
import Derived.Deep.DeepCutAuto
namespace Go.Proofs.YtjkjmapibcfcdaaGreat
open Go.ChangeShapes Go.WideShapes Go.ChangeAt Go.RowKit
set_option linter.unusedVariables false
set_option linter.unusedSimpArgs false
set_option maxRecDepth 100000

def ImM (W : World) (lo : Nat) (sv ev wv : Value) (rs : List (Nst (List Int))) (ss : List Int) (es : List Ent) : Prop :=
  RmN W lo sv ss ∧ ApE W lo ev es ∧ OwnRw 1 lsCl W lo wv rs ∧ (∀ p ∈ rs, RmN W lo (Sv idL p) p.m) ∧ Apart idL wv rs ∧ (ss = [] ∨ touch ev ≠ some (bO sv)) ∧ (ss = [] ∨ Off (bO sv) wv rs) ∧ ∀ j, touch ev = some j → Off j wv rs
theorem touch_of {α : Type} {T : TypeId} {sz : Nat} {cl : α → List Value} {w : World} {base : Nat} {v : Value} {xs : List α} (h : ApR T sz cl w base v xs) (hx : xs ≠ []) : touch v = some (bO v) := by
  rcases h with ⟨h, -⟩ | h
  · exact absurd h hx
  · rcases h.2 with ⟨-, h0⟩ | ⟨g, cap, cur, rfl, -, -, hnc, -⟩
    · exact absurd (List.length_eq_zero_iff.1 h0) hx
    · have : xs.length ≠ 0 := fun e => hx (List.length_eq_zero_iff.1 e)
      have hc : cap ≠ 0 := by omega
      simp [touch, hc, bO]
theorem ImM.owm {W : World} {lo : Nat} {sv ev wv : Value} {rs : List (Nst (List Int))} {ss : List Int} {es : List Ent} (h : ImM W lo sv ev wv rs ss es) : OwM lo W.heap.size sv ev wv rs ss es W := by
  obtain ⟨h1, h2, h3, h4, h5, h6, h7, h8⟩ := h
  have o2 := ApR.own elemE h2
  refine ⟨⟨h1.own, h1.bs.lt⟩, ⟨o2, o2.lt⟩, ⟨h3, h3.ltG lsCl_len (by decide), fun p hp => ⟨(h4 p hp).own, (h4 p hp).bs.lt⟩, h5⟩, ?_, h7, ?_⟩
  · rcases h6 with h | h
    · exact .inl h
    · by_cases he : es = []
      · exact .inr (.inl he)
      · refine .inr (.inr fun e => h ?_)
        rw [touch_of h2 he, e]
  · by_cases he : es = []
    · exact .inl he
    · exact .inr (h8 _ (touch_of h2 he))
theorem RowG.farG {β : Type} {sz : Nat} {cl : β → List Value} {w : World} {b b' o off n : Nat} {f : Nat → β} (h : RowG sz cl w b off n f) (hb : b ≠ b') (u : Value) : RowG sz cl (w.setCell ⟨b', o, none⟩ u) b off n f := fun i hi j x hx => ⟨sO (h i hi j x hx).1 (.inl hb), (World.frozen?_setCell _ _ _ _).trans (h i hi j x hx).2⟩
theorem op_mkS {w w' : World} {o : Oper} {a : Act} {Q : Exit → Act → World → Prop} {K : Act → World → Prop} (t : TypeId) (x y : Operand) (hop : o.op = .makeSlice t x y)
    (vx vy : Value) (hx : a.eval x = vx) (hy : a.eval y = vy) {v' : Value} (hr : (Instr.makeSlice t vx vy).run Tryz.prog w = .ok v' w') (h : K (a.put o.dst v') w') : Oper.wp Tryz.prog o a w K Q := by
  unfold Oper.wp
  simp [execOp, hop, hx, hy, hr, Result.andThen]
  exact h
def CopR (wr : World) (b : Nat) (rs : List (Nst (List Int))) (k : Nat) (f : Nat → Nst (List Int)) : Prop :=
  RowG 1 lsCl wr b 0 rs.length f ∧ (∀ i (h : i < rs.length), i < k → (f i).m = rs[i].m ∧ RmN wr (b + 1) (Sv idL (f i)) (f i).m) ∧ ∀ i j, i < k → j < k → i < j → (f i).m = [] ∨ (f j).m = [] ∨ bO (Sv idL (f i)) ≠ bO (Sv idL (f j))
theorem CopR.below {wr w2 : World} {b k : Nat} {rs : List (Nst (List Int))} {f : Nat → Nst (List Int)} (h : CopR wr b rs k f) (hb : Below wr.heap.size wr w2) : CopR w2 b rs k f := ⟨h.1.below hb, fun i hi hk => ⟨(h.2.1 i hi hk).1, (h.2.1 i hi hk).2.below hb⟩, h.2.2⟩
theorem CopR.far {wr : World} {b b' o k : Nat} {rs : List (Nst (List Int))} {f : Nat → Nst (List Int)} (h : CopR wr b rs k f) (hb : b' < b) (u : Value) : CopR (wr.setCell ⟨b', o, none⟩ u) b rs k f := ⟨h.1.farG (by omega) u, fun i hi hk => ⟨(h.2.1 i hi hk).1, (h.2.1 i hi hk).2.far (by omega) u⟩, h.2.2⟩
theorem offG {V : World} {g n j : Nat} {qs : List (Nst (List Int))} (hq : ∀ p ∈ qs, RmN V (g + 1) (Sv idL p) p.m) (hj : j < g) : Off j (.slice (some ⟨g, 0, none⟩) n n) qs := by
  refine ⟨.inr ?_, fun p hp => ?_⟩
  · have : bO (.slice (some ⟨g, 0, none⟩) n n) = g := rfl
    omega
  · rcases (hq p hp).ge with h | h
    · exact .inl h
    · exact .inr (by omega)
theorem CopR.step {wr w2 : World} {b k : Nat} {rs : List (Nst (List Int))} {f : Nat → Nst (List Int)} (h : CopR wr b rs k f) (hk : k < rs.length) (hb2 : Below wr.heap.size wr w2) (hbw : b < wr.heap.size) {qa : Option Addr} {qc : Nat} (ho : RmN w2 wr.heap.size (.slice qa rs[k].m.length qc) rs[k].m) :
    CopR (w2.setCell ⟨b, k, none⟩ (.slice qa rs[k].m.length qc)) b rs (k + 1) (putG f k ⟨qa, qc, rs[k].m⟩) := by
  obtain ⟨h1, h2, h3⟩ := h
  have far : ∀ {base : Nat} {v : Value} {xs : List Int}, RmN w2 base v xs → b < base → RmN (w2.setCell ⟨b, k, none⟩ (.slice qa rs[k].m.length qc)) base v xs := fun {base v xs} q hb => q.far hb _
  refine ⟨?_, fun i hi hik => ?_, fun i j hi hj hij => ?_⟩
  · have r1 := (h1.below hb2).put lsCl_len hk 0 (by decide) (.slice qa rs[k].m.length qc) ⟨qa, qc, rs[k].m⟩ rfl
    simpa using r1
  · by_cases e : i = k
    · subst e
      rw [putG_same]
      exact ⟨rfl, far (ho.mono (by omega)) (by omega)⟩
    · rw [putG_ne _ _ e]
      have q := h2 i hi (by omega)
      exact ⟨q.1, far (q.2.below hb2) (by omega)⟩
  · by_cases e : j = k
    · subst e
      rw [putG_same, putG_ne _ _ (by omega)]
      have q := h2 i (by omega) (by omega)
      rcases q.2.bs.lt with h | h
      · exact .inl h
      · rcases ho.ge with h' | h'
        · exact .inr (.inl h')
        · right; right
          have e1 : bO (Sv idL (⟨qa, qc, rs[j].m⟩ : Nst (List Int))) = bO (.slice qa rs[j].m.length qc) := rfl
          rw [e1]
          omega
    · rw [putG_ne _ _ e, putG_ne _ _ (by omega)]
      exact h3 i j (by omega) (by omega) hij
theorem CopR.fin {wr : World} {b : Nat} {rs : List (Nst (List Int))} {f : Nat → Nst (List Int)} (h : CopR wr b rs rs.length f) (hl : rs.length ≤ 9223372036854775807) : ∃ qs : List (Nst (List Int)), qs.map Nst.m = rs.map Nst.m ∧ OwnRw 1 lsCl wr b (.slice (some ⟨b, 0, none⟩) rs.length rs.length) qs ∧ (∀ p ∈ qs, RmN wr (b + 1) (Sv idL p) p.m) ∧ Apart idL (.slice (some ⟨b, 0, none⟩) rs.length rs.length) qs := by
  obtain ⟨h1, h2, h3⟩ := h
  have hlq : ((List.range rs.length).map f).length = rs.length := by simp
  have hg : ∀ i (hi : i < ((List.range rs.length).map f).length), ((List.range rs.length).map f)[i] = f i := fun i hi => by simp
  have o := RowG.own (es := (List.range rs.length).map f) (base := b) (cap := rs.length) h1 (by simp) (fun i hi => (hg i hi).symm) (Nat.le_refl _) (by rw [hlq]; omega) (by rw [hlq]; omega)
  rw [hlq] at o
  refine ⟨(List.range rs.length).map f, ?_, o, fun p hp => ?_, fun i j hi hj hij => ?_, fun i hi => ?_⟩
  · rw [List.map_map]
    exact range_map_m (ms := rs.map Nst.m) (by simp) (fun i hi => by
      have hi' : i < rs.length := by simpa using hi
      rw [List.getElem_map]
      exact (h2 i hi' hi').1)
  · obtain ⟨i, hi, rfl⟩ := List.mem_map.1 hp
    have hi' := List.mem_range.1 hi
    exact (h2 i hi' hi').2
  · rw [hg, hg]
    rw [hlq] at hi hj
    rcases Nat.lt_or_gt_of_ne hij with h | h
    · exact h3 i j hi hj h
    · rcases h3 j i hj hi h with h | h | h
      · exact .inr (.inl h)
      · exact .inl h
      · exact .inr (.inr (Ne.symm h))
  · rw [hg]
    rw [hlq] at hi
    rcases (h2 i hi hi).2.ge with h | h
    · exact .inl h
    · refine .inr ?_
      have : bO (.slice (some ⟨b, 0, none⟩) rs.length rs.length) = b := rfl
      omega
set_option maxHeartbeats 8000000 in
theorem copied9_any (v : Value) (m : Mn) (w : World) (hv : RdMend v m w) (hs : sizMend m ≤ 1048576) :
    Calls Tryz.prog 74 #[v] w fun e w' => (∃ sv ev wv qs, e = .returned (.agg #[.int .i64 m.bye, .int .i64 m.epoch, sv, ev, .bool m.planned, wv]) ∧ qs.map Nst.m = m.wrote ∧ ImM w' w.heap.size sv ev wv qs m.sealed m.seen) ∧ Below w.heap.size w w' := by
  have ba : ∀ (w : World) o, Below w.heap.size w (w.alloc o) := fun w o => (Below.refl _ _).alloc (Nat.le_refl _) o
  obtain ⟨sv, ev, wv, rfl, h1, h2, rs, hm, hr, hn⟩ := hv
  have hl1 : m.sealed.length ≤ 1048576 := by unfold sizMend at hs; omega
  have hl2 : m.seen.length ≤ 1048576 := by unfold sizMend sizEntryS at hs; omega
  have hrl : rs.length = m.wrote.length := by rw [← hm, List.length_map]
  have hl3 : rs.length ≤ 1048576 := by rw [hrl]; unfold sizMend sizIntSS at hs; omega
  have HLL : Hid (∀ k (hk : k < rs.length), rs[k].m.length ≤ 1048576) := fun k hk => by
    have q := sumL_mem (ms := rs.map Nst.m) (k := k) (by simpa using hk)
    rw [List.getElem_map] at q
    have q2 : sumL (rs.map Nst.m) = sumL m.wrote := by rw [hm]
    unfold sizMend sizIntSS at hs
    omega
  have C1 := dH fun W (hb : Below w.heap.size w W) => cloneI_any sv m.sealed W (h1.below hb) hl1
  have C2 := dH fun W (hb : Below w.heap.size w W) => copyEntries_any ev m.seen W (Rw.below h2 hb) hl2
  have HR := dH fun W (hb : Below w.heap.size w W) => hr.below hb
  have HN : Hid (∀ W, Below w.heap.size w W → ∀ k (hk : k < rs.length), Ns W (.slice rs[k].a rs[k].m.length rs[k].c) rs[k].m) := fun W hb k hk => (hn _ (List.getElem_mem hk)).below hb
  have EQ := dH hm
  obtain ⟨-, sa, sc, rfl, -, -⟩ := h1
  obtain ⟨ea, ec, rfl, -⟩ := formEntryS h2
  obtain ⟨-, wa, wz, rfl, -, -⟩ := hr
  rw [← dU EQ]
  have hmk := makeL rs.length (by omega)
  generalize m.bye = f0 at *
  generalize m.epoch = f1 at *
  generalize m.planned = f4 at *
  generalize m.sealed = ss at *
  generalize m.seen = es at *
  clear hn h2 hs hm hrl EQ
  have X0 := ((Bx.new w [.int .i64 f0, .int .i64 f1, .slice sa ss.length sc, .slice ea es.length ec, .bool f4, .slice wa rs.length wz] 30).below (ba _ (.cells #[.int .i64 0, .int .i64 0, .slice none 0 0, .slice none 0 0, .bool false, .slice none 0 0] 30))).below (ba _ (.cells #[.int .i64 f0, .int .i64 f1, .slice sa ss.length sc, .slice ea es.length ec, .bool f4, .slice wa rs.length wz] 30))
  have R0 := (BxZ.new (B := w.heap.size) (w.alloc (.cells #[.int .i64 f0, .int .i64 f1, .slice sa ss.length sc, .slice ea es.length ec, .bool f4, .slice wa rs.length wz] 30)) [.int .i64 0, .int .i64 0, .slice none 0 0, .slice none 0 0, .bool false, .slice none 0 0] 30 (by simp)).below (ba _ (.cells #[.int .i64 f0, .int .i64 f1, .slice sa ss.length sc, .slice ea es.length ec, .bool f4, .slice wa rs.length wz] 30))
  have O0 := BxZ.new (B := w.heap.size) ((w.alloc (.cells #[.int .i64 f0, .int .i64 f1, .slice sa ss.length sc, .slice ea es.length ec, .bool f4, .slice wa rs.length wz] 30)).alloc (.cells #[.int .i64 0, .int .i64 0, .slice none 0 0, .slice none 0 0, .bool false, .slice none 0 0] 30)) [.int .i64 f0, .int .i64 f1, .slice sa ss.length sc, .slice ea es.length ec, .bool f4, .slice wa rs.length wz] 30 (by simp; omega)
  rw [show (w.alloc (.cells #[.int .i64 f0, .int .i64 f1, .slice sa ss.length sc, .slice ea es.length ec, .bool f4, .slice wa rs.length wz] 30)).heap.size = w.heap.size + 1 from by simp] at R0
  rw [show ((w.alloc (.cells #[.int .i64 f0, .int .i64 f1, .slice sa ss.length sc, .slice ea es.length ec, .bool f4, .slice wa rs.length wz] 30)).alloc (.cells #[.int .i64 0, .int .i64 0, .slice none 0 0, .slice none 0 0, .bool false, .slice none 0 0] 30)).heap.size = w.heap.size + 1 + 1 from by simp] at O0
  have B0 := bT (bT (ba w (.cells #[.int .i64 f0, .int .i64 f1, .slice sa ss.length sc, .slice ea es.length ec, .bool f4, .slice wa rs.length wz] 30)) (ba _ (.cells #[.int .i64 0, .int .i64 0, .slice none 0 0, .slice none 0 0, .bool false, .slice none 0 0] 30))) (ba _ (.cells #[.int .i64 f0, .int .i64 f1, .slice sa ss.length sc, .slice ea es.length ec, .bool f4, .slice wa rs.length wz] 30))
  go_enter Tryz.func74, Tryz.ntmps74
  go_wp2_with fail
  generalize (((w.alloc (.cells #[.int .i64 f0, .int .i64 f1, .slice sa ss.length sc, .slice ea es.length ec, .bool f4, .slice wa rs.length wz] 30)).alloc (.cells #[.int .i64 0, .int .i64 0, .slice none 0 0, .slice none 0 0, .bool false, .slice none 0 0] 30)).alloc (.cells #[.int .i64 f0, .int .i64 f1, .slice sa ss.length sc, .slice ea es.length ec, .bool f4, .slice wa rs.length wz] 30)) = w0 at *
  have hr0 : w.heap.size + 1 + 1 < w0.heap.size := O0.lt
  refine (dU C1 _ B0).mono ?_
  rintro e w1 ⟨⟨u1, rfl, P1⟩, b1⟩
  obtain ⟨-, ua, uc, rfl, -, -⟩ := P1.bs
  have hs1 := b1.size
  have X1 := (X0.below b1).farB (b' := w.heap.size + 1 + 1) (o := 2) (by omega) (.slice ua ss.length uc)
  have R1 := (R0.below b1).far (b' := w.heap.size + 1 + 1) (o := 2) (by omega) (.slice ua ss.length uc)
  obtain ⟨z2, g2⟩ := (O0.below b1).2 2 _ rfl
  have O1 := (O0.below b1).put 2 (.slice ua ss.length uc)
  have Q1 := P1.far (b := w.heap.size + 1 + 1) (o := 2) (by omega) (.slice ua ss.length uc)
  have B1 := (bT B0 b1).setCell (p := ⟨w.heap.size + 1 + 1, 2, none⟩) (by simp only; omega) (.slice ua ss.length uc)
  have x3 := (X0.below b1) 3 _ rfl
  have x3' := X1 3 _ rfl
  have hz1 : w1.heap.size = (w1.setCell ⟨w.heap.size + 1 + 1, 2, none⟩ (.slice ua ss.length uc)).heap.size := by simp
  clear X0 R0 O0 B0 C1 P1 b1
  go_wp2_with fail
  generalize w1.setCell ⟨w.heap.size + 1 + 1, 2, none⟩ (.slice ua ss.length uc) = w2 at *
  clear z2 g2 x3
  refine (dU C2 _ B1).mono ?_
  rintro e w3 ⟨⟨u3, rfl, P3⟩, b3⟩
  obtain ⟨va, vc, rfl⟩ := ApR.slice elemE P3
  have hs3 := b3.size
  have X3 := (X1.below b3).farB (b' := w.heap.size + 1 + 1) (o := 3) (by omega) (.slice va es.length vc)
  have R3 := (R1.below b3).far (b' := w.heap.size + 1 + 1) (o := 3) (by omega) (.slice va es.length vc)
  obtain ⟨z3, g3⟩ := (O1.below b3).2 3 _ rfl
  have O3 := (O1.below b3).put 3 (.slice va es.length vc)
  have Q3 := (Q1.below b3).far (b := w.heap.size + 1 + 1) (o := 3) (by omega) (.slice va es.length vc)
  have E3 := ApR.far elemE P3 (b := w.heap.size + 1 + 1) (o' := 3) (by omega) (.slice va es.length vc)
  have B3 := (bT B1 b3).setCell (p := ⟨w.heap.size + 1 + 1, 3, none⟩) (by simp only; omega) (.slice va es.length vc)
  have hz3 : w3.heap.size = (w3.setCell ⟨w.heap.size + 1 + 1, 3, none⟩ (.slice va es.length vc)).heap.size := by simp
  have x5 := (X1.below b3) 5 _ rfl
  have x5' := X3 5 _ rfl
  have S1 : ss = [] ∨ bO (.slice ua ss.length uc) < w2.heap.size := Q1.bs.lt
  have S2 : ∀ j, touch (.slice va es.length vc) = some j → w2.heap.size ≤ j ∧ j < w3.heap.size := fun j hj => P3.touched elemE hj
  clear X1 R1 O1 Q1 B1 C2 P3 b3 x3'
  have RG := madeL (w3.setCell ⟨w.heap.size + 1 + 1, 3, none⟩ (.slice va es.length vc)) rs.length 24
  rw [World.size_setCell] at RG
  have bG := ba (w3.setCell ⟨w.heap.size + 1 + 1, 3, none⟩ (.slice va es.length vc)) (.cells (madeCells #[.slice none 0 0] rs.length) 24)
  have hmk2 : ∀ (W : World), (Instr.makeSlice 28 (.int .i64 (rs.length : Int)) (.int .i64 (rs.length : Int))).run Tryz.prog W = .ok (.slice (some ⟨W.heap.size, 0, none⟩) rs.length rs.length) (W.alloc (.cells (madeCells #[.slice none 0 0] rs.length) 24)) := fun W => by
    have := hmk W
    rw [Nat.mul_one, show (Value.slice none 0 0).cells = #[.slice none 0 0] from by kernel_rfl] at this
    exact this
  have X4 := X3.below bG
  have R4 := R3.below bG
  have O4 := O3.below bG
  have Q4 := Q3.below bG
  have E4 := E3.below bG
  have B4 := bT B3 bG
  have hz5 : w3.heap.size + 1 = ((w3.setCell ⟨w.heap.size + 1 + 1, 3, none⟩ (.slice va es.length vc)).alloc (.cells (madeCells #[.slice none 0 0] rs.length) 24)).heap.size := by simp
  have x5'' := X4 5 _ rfl
  clear X3 R3 O3 Q3 E3 B3 bG hmk
  go_wp2_with fail
  refine op_mkS _ _ _ rfl _ _ rfl rfl (hmk2 _) ?_
  simp only [World.size_setCell, Act.put, List.setIfInBounds_toArray, List.set_cons_zero, List.set_cons_succ]
  generalize ((w3.setCell ⟨w.heap.size + 1 + 1, 3, none⟩ (.slice va es.length vc)).alloc (.cells (madeCells #[.slice none 0 0] rs.length) 24)) = w4 at *
  generalize hg : w3.heap.size = g at *
  clear hmk2 x5 x5' hz3 z3 g3
  have hgb : w.heap.size + 1 + 1 < g := by omega
  obtain ⟨z5, g5⟩ := O4.2 5 _ rfl
  have X5 := X4.farB (b' := w.heap.size + 1 + 1) (o := 5) (by omega) (.slice (some ⟨g, 0, none⟩) rs.length rs.length)
  have R5 := R4.far (b' := w.heap.size + 1 + 1) (o := 5) (by omega) (.slice (some ⟨g, 0, none⟩) rs.length rs.length)
  have O5 := O4.put 5 (.slice (some ⟨g, 0, none⟩) rs.length rs.length)
  have Q5 := Q4.far (b := w.heap.size + 1 + 1) (o := 5) (by omega) (.slice (some ⟨g, 0, none⟩) rs.length rs.length)
  have E5 := ApR.far elemE E4 (b := w.heap.size + 1 + 1) (o' := 5) (by omega) (.slice (some ⟨g, 0, none⟩) rs.length rs.length)
  have B5 := B4.setCell (p := ⟨w.heap.size + 1 + 1, 5, none⟩) (by simp only; omega) (.slice (some ⟨g, 0, none⟩) rs.length rs.length)
  have G5 := RG.farG (b' := w.heap.size + 1 + 1) (o := 5) (by omega) (.slice (some ⟨g, 0, none⟩) rs.length rs.length)
  have hz6 : g + 1 = (w4.setCell ⟨w.heap.size + 1 + 1, 5, none⟩ (.slice (some ⟨g, 0, none⟩) rs.length rs.length)).heap.size := by simpa using hz5
  have x5q := X5 5 _ rfl
  clear X4 R4 O4 Q4 E4 B4 RG
  go_wp2
  generalize w4.setCell ⟨w.heap.size + 1 + 1, 5, none⟩ (.slice (some ⟨g, 0, none⟩) rs.length rs.length) = w5 at *
  clear z5 g5 x5''
  have HX := dH fun W (hb : Below w5.heap.size w5 W) => X5.below hb
  have HRb := dH fun W (hb : Below w5.heap.size w5 W) => R5.below hb
  have HO := dH fun W (hb : Below w5.heap.size w5 W) => O5.below hb
  have HQ := dH Q5
  have HEe := dH E5
  clear X5 R5 O5 Q5 E5 x5q
  go_loopw [23] (fun q wr => ∃ (k : Nat) (f : Nat → Nst (List Int)), q = .int .i64 (k : Int) ∧ k ≤ rs.length ∧ Hid (CopR wr g rs k f) ∧ Hid (Bx wr w.heap.size [.int .i64 f0, .int .i64 f1, .slice sa ss.length sc, .slice ea es.length ec, .bool f4, .slice wa rs.length wz]) ∧ Hid (BxZ wr w.heap.size (w.heap.size + 1) [.int .i64 0, .int .i64 0, .slice none 0 0, .slice none 0 0, .bool false, .slice none 0 0]) ∧ Hid (BxZ wr w.heap.size (w.heap.size + 1 + 1) [.int .i64 f0, .int .i64 f1, .slice ua ss.length uc, .slice va es.length vc, .bool f4, .slice (some ⟨g, 0, none⟩) rs.length rs.length]) ∧ Hid (RmN wr w0.heap.size (.slice ua ss.length uc) ss) ∧ Hid (ApE wr w2.heap.size (.slice va es.length vc) es) ∧ g < wr.heap.size ∧ Below w.heap.size w wr) (fun q _ => rs.length - (intOf q).toNat)
  case atStart => exact ⟨0, fun _ => zeroL, rfl, Nat.zero_le _, ⟨G5, fun i h h' => by omega, fun i j h => by omega⟩, dU HX _ (Below.refl _ _), dU HRb _ (Below.refl _ _), dU HO _ (Below.refl _ _), dU HQ, dU HEe, by omega, B5⟩
  case round =>
    clear HX HRb HO HQ HEe B5 G5
    obtain ⟨k, f, rfl, hk, hC, hX, hR, hO, hQ, hE, hgz, hb⟩ := hrel
    by_cases hlt : (k : Int) < (rs.length : Int)
    · have hkl : k < rs.length := by omega
      obtain ⟨b, off, rfl, hce⟩ := (dU HR wr hb).ls hkl
      have EE := hce k hkl
      have CK := dH fun W (hW : Below wr.heap.size wr W) => cloneI_any (.slice rs[k].a rs[k].m.length rs[k].c) rs[k].m W (dU HN W (bT hb hW) k hkl) (dU HLL k hkl)
      have ST : Hid (∀ (w2 : World) qa qc, Below wr.heap.size wr w2 → RmN w2 wr.heap.size (.slice qa rs[k].m.length qc) rs[k].m → CopR (w2.setCell ⟨g, k, none⟩ (.slice qa rs[k].m.length qc)) g rs (k + 1) (putG f k ⟨qa, qc, rs[k].m⟩) ∧ ∃ u, w2.cell? ⟨g, k, none⟩ = some u ∧ w2.frozen? ⟨g, k, none⟩ = false) := fun w2 qa qc hW ho => ⟨(dU hC).step hkl hW hgz ho, by
        have q := ((dU hC).1.below hW) k hkl 0 _ rfl
        simp only [Nat.zero_add, Nat.mul_one, Nat.add_zero] at q
        exact ⟨_, q.1, q.2⟩⟩
      generalize rs[k] = y at *
      obtain ⟨ya, yc, yn⟩ := y
      simp only at *
      have Ob := dU hO
      have p0 := (Ob.2 5 _ rfl).1
      have bd : Below wr.heap.size wr wr.drew := (Below.refl _ _).drew
      have pd := ((Ob.below bd).2 5 _ rfl).1
      clear hce hC
      go_wp2_with fail
      refine wp_region_noPanic ?_
      refine wp_region_held_drew (S := fun W => W.cell? ⟨w.heap.size + 1 + 1, 5, none⟩ = some (.slice (some ⟨g, 0, none⟩) rs.length rs.length)) (by kernel_rfl) (by first | with_reducible exact pd | exact p0 | go_keep) (fun hHeld => ?_)
      have hwd : Below wr.heap.size wr wr.drew := bd
      generalize wr.drew = wd at *
      refine tY 0 (v := ?_) rfl (by kernel_rfl) (.inl ⟨by rfl, ?_⟩) ‹_› ?_
      rotate_left 1
      · intro w hSw
        (try dsimp only at hSw)
        first | (go_simp; done) | (go_simp; with_reducible rfl)
      try simp only [Act.put, sA, sB, sC]
      refine tY 1 (v := ?_) rfl (by kernel_rfl) (.inl ⟨by rfl, ?_⟩) ‹_› ?_
      rotate_left 1
      · intro w hSw
        (try dsimp only at hSw)
        first | (go_simp; done) | (go_simp; with_reducible rfl)
      try simp only [Act.put, sA, sB, sC]
      refine tY 2 (v := ?_) rfl (by kernel_rfl) (.inl ⟨by rfl, ?_⟩) ‹_› ?_
      rotate_left 1
      · intro w hSw
        (try dsimp only at hSw)
        first | (go_simp; done) | (go_simp; with_reducible rfl)
      try simp only [Act.put, sA, sB, sC]
      refine tY 3 (v := ?_) rfl (by kernel_rfl) (.inl ⟨by rfl, ?_⟩) ‹_› ?_
      rotate_left 1
      · intro w hSw
        (try dsimp only at hSw)
        first | (go_simp; done) | (go_simp; with_reducible rfl)
      try simp only [Act.put, sA, sB, sC]
      refine wpAnyH_ready (rs := [4]) (by kernel_rfl) (by simp) ?_
      refine rC rfl (fun K hK => ?_) AllReadyH.nil
      go_simp
      refine (dU CK wd hwd).mono ?_
      rintro e w6 ⟨⟨u, rfl, Q6⟩, b6⟩
      obtain ⟨-, qa, qc, rfl, -, -⟩ := Q6.bs
      have hb6 := bT hwd b6
      obtain ⟨S6, uu, c6, f6⟩ := dU ST w6 qa qc hb6 (Q6.mono hwd.size)
      have Ob6 := Ob.below hb6
      have pd := (Ob6.2 5 _ rfl).1
      clear Q6 b6 hwd CK ST
      (try go_wp2_with fail)
      refine hK.out _ _ (by first | with_reducible exact pd | exact p0 | go_keep) (fun hHeld => ?_)
      clear hK K
      try simp only [Act.put, sA, sB, sC]
      refine tY 5 (v := ?_) rfl (by kernel_rfl) (.inl ⟨by rfl, ?_⟩) ‹_› ?_
      rotate_left 1
      · intro w hSw
        (try dsimp only at hSw)
        first | (go_simp; done) | (go_simp; with_reducible rfl)
      try simp only [Act.put, sA, sB, sC]
      refine wpAnyH_ready (rs := [6]) (by kernel_rfl) (by simp) ?_
      refine rC rfl (fun K hK => ?_) AllReadyH.nil
      go_simp
      have HC7 := dH S6
      have HX7 := dH (((dU hX).below hb6).farB (b' := g) (o := k) (by omega) (.slice qa yn.length qc))
      have HR7 := dH (((dU hR).below hb6).far (b' := g) (o := k) (by omega) (.slice qa yn.length qc))
      have O7 := Ob6.far (b' := g) (o := k) (by omega) (.slice qa yn.length qc)
      have HQ7 := dH (((dU hQ).below hb6).grown (grown_set w6 g k (.slice qa yn.length qc)) (by
        rcases S1 with h | h
        · exact .inl h
        · exact .inr fun e => by
            have := Option.some.inj e
            omega))
      have HE7 := dH (ApR.put elemE ((dU hE).below hb6) (b := g) (o' := k) (fun e => by have := (S2 _ e).2; omega) (.slice qa yn.length qc))
      have hb7 := (bT hb hb6).setCell (p := ⟨g, k, none⟩) (by simp only; omega) (.slice qa yn.length qc)
      have hg7 : g < (w6.setCell ⟨g, k, none⟩ (.slice qa yn.length qc)).heap.size := by
        have := hb6.size
        simp
        omega
      have pd := (O7.2 5 _ rfl).1
      have HO7 := dH O7
      clear S6 c6 f6 Ob6 hb6 O7 hX hR hQ hE
      generalize w6.setCell ⟨g, k, none⟩ (.slice qa yn.length qc) = w7 at *
      (try go_wp2_with fail)
      refine hK.out _ _ (by first | with_reducible exact pd | exact p0 | go_keep) (fun hHeld => ?_)
      clear hK K
      try simp only [Act.put, sA, sB, sC]
      refine wpAnyH_done (by kernel_rfl) ?_ _
      refine NoPanic.normal ?_
      clear pd p0 Ob hO
      go_wp2_with fail
      go_roundw
      case rel =>
        first
          | exact ⟨k + 1, _, by go_num, by omega, HC7, HX7, HR7, HO7, HQ7, HE7, hg7, hb7⟩
          | (repeat apply Exists.intro
             refine ⟨⟨show Value.int IntKind.i64 ((k : Int) + 1) = Value.int IntKind.i64 ((k + 1 : Nat) : Int) from by go_num, by omega, HC7, HX7, HR7, HO7, HQ7, HE7, hg7, hb7⟩, ?_⟩
             all_goals rfl)
      case measure => simp [intOf]; omega
    · have ek : k = rs.length := by omega
      subst ek
      have Ob := dU hO
      have YB := dU hR
      have hyb : w.heap.size + 1 < w0.heap.size := by omega
      have hyg : w.heap.size + 1 < w2.heap.size := by omega
      obtain ⟨o0, -⟩ := Ob.2 0 _ rfl
      obtain ⟨o1, -⟩ := Ob.2 1 _ rfl
      obtain ⟨o2, -⟩ := Ob.2 2 _ rfl
      obtain ⟨o3, -⟩ := Ob.2 3 _ rfl
      obtain ⟨o4, -⟩ := Ob.2 4 _ rfl
      obtain ⟨o5, -⟩ := Ob.2 5 _ rfl
      obtain ⟨z0, g0⟩ := YB.2 0 _ rfl
      obtain ⟨z1, g1⟩ := YB.2 1 _ rfl
      obtain ⟨z2, g2⟩ := YB.2 2 _ rfl
      obtain ⟨z3, g3⟩ := YB.2 3 _ rfl
      obtain ⟨z4, g4⟩ := YB.2 4 _ rfl
      obtain ⟨z5, g5⟩ := YB.2 5 _ rfl
      have YY := dH ((((((YB.put 0 (.int .i64 f0)).put 1 (.int .i64 f1)).put 2 (.slice ua ss.length uc)).put 3 (.slice va es.length vc)).put 4 (.bool f4)).put 5 (.slice (some ⟨g, 0, none⟩) rs.length rs.length))
      have PA := dH (((((((dU hQ).far (b := w.heap.size + 1) (o := 0) hyb (.int .i64 f0)).far (b := w.heap.size + 1) (o := 1) hyb (.int .i64 f1)).far (b := w.heap.size + 1) (o := 2) hyb (.slice ua ss.length uc)).far (b := w.heap.size + 1) (o := 3) hyb (.slice va es.length vc)).far (b := w.heap.size + 1) (o := 4) hyb (.bool f4)).far (b := w.heap.size + 1) (o := 5) hyb (.slice (some ⟨g, 0, none⟩) rs.length rs.length))
      have PB := dH (ApR.far elemE (ApR.far elemE (ApR.far elemE (ApR.far elemE (ApR.far elemE (ApR.far elemE (dU hE) (b := w.heap.size + 1) (o' := 0) hyg (.int .i64 f0)) (b := w.heap.size + 1) (o' := 1) hyg (.int .i64 f1)) (b := w.heap.size + 1) (o' := 2) hyg (.slice ua ss.length uc)) (b := w.heap.size + 1) (o' := 3) hyg (.slice va es.length vc)) (b := w.heap.size + 1) (o' := 4) hyg (.bool f4)) (b := w.heap.size + 1) (o' := 5) hyg (.slice (some ⟨g, 0, none⟩) rs.length rs.length))
      have PC := dH (((((((dU hC).far (b' := w.heap.size + 1) (o := 0) (by omega) (.int .i64 f0)).far (b' := w.heap.size + 1) (o := 1) (by omega) (.int .i64 f1)).far (b' := w.heap.size + 1) (o := 2) (by omega) (.slice ua ss.length uc)).far (b' := w.heap.size + 1) (o := 3) (by omega) (.slice va es.length vc)).far (b' := w.heap.size + 1) (o := 4) (by omega) (.bool f4)).far (b' := w.heap.size + 1) (o := 5) (by omega) (.slice (some ⟨g, 0, none⟩) rs.length rs.length))
      have BF := dH ((((((hb.setCell (p := ⟨w.heap.size + 1, 0, none⟩) (by simp) (.int .i64 f0)).setCell (p := ⟨w.heap.size + 1, 1, none⟩) (by simp) (.int .i64 f1)).setCell (p := ⟨w.heap.size + 1, 2, none⟩) (by simp) (.slice ua ss.length uc)).setCell (p := ⟨w.heap.size + 1, 3, none⟩) (by simp) (.slice va es.length vc)).setCell (p := ⟨w.heap.size + 1, 4, none⟩) (by simp) (.bool f4)).setCell (p := ⟨w.heap.size + 1, 5, none⟩) (by simp) (.slice (some ⟨g, 0, none⟩) rs.length rs.length))
      clear Ob YB hQ hE hC hX hR hO HR HN HLL
      go_wp2_with fail
      generalize ((((((wr.setCell ⟨w.heap.size + 1, 0, none⟩ (.int .i64 f0)).setCell ⟨w.heap.size + 1, 1, none⟩ (.int .i64 f1)).setCell ⟨w.heap.size + 1, 2, none⟩ (.slice ua ss.length uc)).setCell ⟨w.heap.size + 1, 3, none⟩ (.slice va es.length vc)).setCell ⟨w.heap.size + 1, 4, none⟩ (.bool f4)).setCell ⟨w.heap.size + 1, 5, none⟩ (.slice (some ⟨g, 0, none⟩) rs.length rs.length)) = V at *
      have q0 := ((dU YY).2 0 _ rfl).1
      have q1 := ((dU YY).2 1 _ rfl).1
      have q2 := ((dU YY).2 2 _ rfl).1
      have q3 := ((dU YY).2 3 _ rfl).1
      have q4 := ((dU YY).2 4 _ rfl).1
      have q5 := ((dU YY).2 5 _ rfl).1
      obtain ⟨qs, e1, e2, e3, e4⟩ := (dU PC).fin (by omega)
      refine bodyPost_ret (v := .agg #[.int .i64 f0, .int .i64 f1, .slice ua ss.length uc, .slice va es.length vc, .bool f4, .slice (some ⟨g, 0, none⟩) rs.length rs.length]) (by simp [results, Tryz.results74, go_sem, q0, q1, q2, q3, q4, q5]) rfl ⟨⟨_, _, _, rfl, qs, e1, (dU PA).mono (by omega), (dU PB).mono (by omega), e2.mono (by omega), fun p hp => (e3 p hp).mono (by omega), e4, ?_, ?_, fun j hj => offG e3 (S2 j hj).2⟩, dU BF⟩
      · rcases S1 with h | h
        · exact .inl h
        · exact .inr fun e => by
            have := (S2 _ e).1
            omega
      · rcases S1 with h | h
        · exact .inl h
        · exact .inr (offG e3 (by omega))
end Go.Proofs.YtjkjmapibcfcdaaGreat
