/- Several texts in one: StJ, SitE, StD, SitF, SitG. -/
import Derived.Test.YtejmfohkobhidaaGbE
import Derived.Deep.RegionHeld3
import Derived.Test.YtejmfohkobhidaaGaA
import Derived.Test.YtejmfohkobhidaaGaT
import Derived.Test.YtejmfohkobhidaaGbF
import Derived.Deep.DeepCutAuto
namespace Go.Proofs.Ytejmfohkobhidaa
open Go.ChangeShapes Go.WideShapes Go.ChangeAt Go.RowKit
set_option linter.unusedVariables false
set_option linter.unusedSimpArgs false
set_option maxRecDepth 100000

end Go.Proofs.Ytejmfohkobhidaa
namespace Go.Proofs.Ytejmfohkobhidaa
open Go.ChangeShapes Go.WideShapes Go.ChangeAt Go.RowKit
set_option linter.unusedVariables false
set_option linter.unusedSimpArgs false
set_option maxRecDepth 100000

/-- The bytes of the texts of entries. -/
def sumD (es : List Ent) : Nat := (es.map fun e => e.data.size).sum
theorem sumD_take (es : List Ent) (k : Nat) (h : k < es.length) : sumD (es.take (k + 1)) = sumD (es.take k) + es[k].data.size := by
  unfold sumD
  rw [List.take_succ_eq_append_getElem h, List.map_append, List.sum_append, List.map_cons, List.map_nil, List.sum_cons, List.sum_nil, Nat.add_zero]
theorem sumD_le (es : List Ent) (k : Nat) : sumD (es.take k) ≤ sumD es := by
  unfold sumD
  conv => rhs; rw [← List.take_append_drop k es, List.map_append, List.sum_append]
  exact Nat.le_add_right _ _
/-- Texts that are no longer than an int. -/
def txtE (es : List Ent) : Prop := ∀ e ∈ es, e.data.size ≤ 9223372036854775807
/-- In a block of lo .. hi - 1. -/
def RdEntryS (v : Value) (m : List Ent) (W : World) : Prop := Rw 4 Ent.cl W v m
def OwEntryS (lo hi : Nat) (v : Value) (m : List Ent) (W : World) : Prop := OwnRw 4 Ent.cl W lo v m ∧ (m = [] ∨ blockOf v < hi)
def sizEntryS (m : List Ent) : Nat := m.length + sumD m
def cntEntryS (m : List Ent) : Nat := 4 * m.length
/-- A marked entry. -/
def mkEnt (k : Nat) : Ent := ⟨((k : Nat) : Int), ((k + 1 : Nat) : Int), ((k + 2) % 3 == 0), markT (k + 3)⟩
def mkEntryS (k : Nat) (m : List Ent) : List Ent := (List.range m.length).map fun i => mkEnt (k + 4 * i)
theorem mkEntryS_len (k : Nat) (m : List Ent) : (mkEntryS k m).length = m.length := by simp [mkEntryS]
theorem mkEntryS_at (k : Nat) (m : List Ent) (i : Nat) (h : i < (mkEntryS k m).length) : (mkEntryS k m)[i] = mkEnt (k + 4 * i) := by simp [mkEntryS]
theorem OwEntryS.rd {lo hi : Nat} {v : Value} {m : List Ent} {W : World} (h : OwEntryS lo hi v m W) : RdEntryS v m W := OwnRw.rw h.1
theorem RdEntryS.below {v : Value} {m : List Ent} {W W' : World} (h : RdEntryS v m W) (b : Below W.heap.size W W') : RdEntryS v m W' := Rw.below h b
theorem formEntryS {v : Value} {m : List Ent} {W : World} (h : RdEntryS v m W) : ∃ a cap, v = .slice a m.length cap ∧ m.length ≤ 9223372036854775807 := by
  obtain ⟨h0, a, cap, rfl, -, -⟩ := h
  exact ⟨a, cap, rfl, h0⟩
theorem OwEntryS.sits {lo hi : Nat} {w : World} {v : Value} {m : List Ent} (h : OwEntryS lo hi v m w) (hf : hi ≤ w.heap.size) : Sits (OwEntryS lo hi v m) lo hi w := by
  refine ⟨hf, fun W hW => ⟨?_, h.2⟩⟩
  obtain ⟨⟨h0, a, cap, rfl, hcap, h⟩, hl⟩ := h
  refine ⟨h0, a, cap, rfl, hcap, ?_⟩
  rcases hl with hl | hl
  · exact .inl hl
  · rcases h with h | ⟨b, off, rfl, hb, hc⟩
    · exact .inl h
    · have e := hW b hb hl
      exact .inr ⟨b, off, rfl, hb, fun i hi j u hu => ⟨(World.cell?_of_block (a := ⟨b, off + i * 4 + j, none⟩) e).trans (hc i hi j u hu).1, (World.frozen?_of_block (a := ⟨b, off + i * 4 + j, none⟩) e).trans (hc i hi j u hu).2⟩⟩
theorem OwnRw.lt {w : World} {base : Nat} {v : Value} {m : List Ent} (h : OwnRw 4 Ent.cl w base v m) : m = [] ∨ blockOf v < w.heap.size := by
  obtain ⟨-, a, cap, rfl, -, h⟩ := h
  rcases h with h | ⟨b, off, rfl, hb, hc⟩
  · exact .inl h
  · rcases Nat.eq_zero_or_pos m.length with h1 | h1
    · exact .inl (List.length_eq_zero_iff.1 h1)
    · exact .inr (dCell_lt (hc 0 h1 0 _ rfl).1)
theorem OwnRw.ge {w : World} {base : Nat} {v : Value} {m : List Ent} (h : OwnRw 4 Ent.cl w base v m) : m = [] ∨ base ≤ blockOf v := by
  obtain ⟨-, a, cap, rfl, -, h⟩ := h
  rcases h with h | ⟨b, off, rfl, hb, hc⟩
  · exact .inl h
  · exact .inr hb
theorem OwnRw.sits {w : World} {base : Nat} {v : Value} {m : List Ent} (h : OwnRw 4 Ent.cl w base v m) : Sits (OwEntryS base w.heap.size v m) base w.heap.size w := OwEntryS.sits ⟨h, h.lt⟩ (Nat.le_refl _)
theorem cntEntryS_le {m : List Ent} (h : sizEntryS m ≤ 1048576) : cntEntryS m ≤ 4194304 := by unfold sizEntryS at h; unfold cntEntryS; omega
theorem Wr.set {lo hi b o : Nat} {w wr : World} (h : Wr lo hi w wr) (h1 : lo ≤ b) (h2 : b < hi) (u : Value) : Wr lo hi w (wr.setCell ⟨b, o, none⟩ u) :=
  h.trans ⟨rfl, rfl, rfl, by simp, fun k hk hn => Below.heap_setCell _ _ _ k (fun e => by simp at e; omega)⟩
end Go.Proofs.Ytejmfohkobhidaa
namespace Go.Proofs.Ytejmfohkobhidaa
open Go.ChangeShapes Go.WideShapes Go.ChangeAt Go.RowKit
set_option linter.unusedVariables false
set_option linter.unusedSimpArgs false
set_option maxRecDepth 100000

/-- Entries that may be appended to. -/
abbrev ApE (w : World) (base : Nat) (v : Value) (es : List Ent) : Prop := ApR 28 4 Ent.cl w base v es
/-- A store whose lists may be appended to. -/
def OwS (w : World) (base : Nat) (v : Value) (s : St) : Prop := ∃ kv lv, v = .agg #[kv, lv, .int .i64 s.lock] ∧ ApE w base kv s.kept ∧ ApE w base lv s.late ∧ (touch kv = none ∨ touch kv ≠ touch lv)
theorem OwS.rs {w : World} {base : Nat} {v : Value} {s : St} (h : OwS w base v s) : Rs w v s := by
  obtain ⟨kv, lv, h1, h2, h3, -⟩ := h
  exact ⟨kv, lv, h1, (ApR.own elemE h2).rw, (ApR.own elemE h3).rw⟩
theorem OwS.below {w w' : World} {base : Nat} {v : Value} {s : St} (h : OwS w base v s) (hb : Below w.heap.size w w') : OwS w' base v s := by
  obtain ⟨kv, lv, h1, h2, h3, h4⟩ := h
  exact ⟨kv, lv, h1, h2.below hb, h3.below hb, h4⟩
theorem OwS.mono {w : World} {base base' : Nat} {v : Value} {s : St} (h : OwS w base v s) (hb : base' ≤ base) : OwS w base' v s := by
  obtain ⟨kv, lv, h1, h2, h3, h4⟩ := h
  exact ⟨kv, lv, h1, h2.mono hb, h3.mono hb, h4⟩
set_option maxHeartbeats 4000000 in
theorem l6Copy_any (v : Value) (s : St) (w : World) (hv : Rs w v s) (hk : s.kept.length ≤ 1048576) (hl : s.late.length ≤ 1048576) :
    Calls Try.prog 32 #[v] w fun e w' => (∃ u, e = .returned u ∧ OwS w' w.heap.size u s) ∧ Below w.heap.size w w' := by
  obtain ⟨kv, lv, rfl, rk, rl⟩ := hv
  have HK := dHide fun W (hb : Below w.heap.size w W) => rk.below hb
  have HL := dHide fun W (hb : Below w.heap.size w W) => rl.below hb
  obtain ⟨-, ka, kc, rfl, -, -⟩ := rk
  obtain ⟨-, la, lc, rfl, -, -⟩ := rl
  have EX : Hid (∀ (W : World) a b, ApE W w.heap.size a s.kept → ApE W w.heap.size b s.late → (touch a = none ∨ touch a ≠ touch b) → OwS W w.heap.size (.agg #[a, b, .int .i64 s.lock]) s) := fun W a b h1 h2 h3 => ⟨a, b, rfl, h1, h2, h3⟩
  generalize s.lock = sl at *
  have ba : ∀ (w : World) o, Below w.heap.size w (w.alloc o) := fun w o => (Below.refl _ _).alloc (Nat.le_refl _) o
  go_enter Try.func32, Try.ntmps32
  go_wp2_with fail
  have X0 := BxZ.new w [.slice ka s.kept.length kc, .slice la s.late.length lc, .int .i64 sl] 26 (Nat.le_refl _)
  have X1 := X0.below (ba _ (.cells #[.slice none 0 0, .slice none 0 0, .int .i64 0] 26))
  have Z1 := BxZ.new (B := w.heap.size) (w.alloc (.cells #[.slice ka s.kept.length kc, .slice la s.late.length lc, .int .i64 sl] 26)) [.slice none 0 0, .slice none 0 0, .int .i64 0] 26 (by simp)
  have B1 := belowThen (ba w (.cells #[.slice ka s.kept.length kc, .slice la s.late.length lc, .int .i64 sl] 26)) (ba _ (.cells #[.slice none 0 0, .slice none 0 0, .int .i64 0] 26))
  have e1 : (w.alloc (.cells #[.slice ka s.kept.length kc, .slice la s.late.length lc, .int .i64 sl] 26)).heap.size = w.heap.size + 1 := by simp
  rw [e1] at Z1
  clear X0 e1
  generalize hW : (w.alloc (.cells #[.slice ka s.kept.length kc, .slice la s.late.length lc, .int .i64 sl] 26)).alloc (.cells #[.slice none 0 0, .slice none 0 0, .int .i64 0] 26) = w0 at *
  clear hW
  have HX := dHide X1
  have HZ := dHide Z1
  have k0 := (X1.2 0 _ rfl).1
  have k1 := (X1.2 1 _ rfl).1
  have k2 := (X1.2 2 _ rfl).1
  have hlt := Z1.lt
  clear X1 Z1
  have HK0 := dHide fun W (hb : Below w0.heap.size w0 W) => dUnhide HK W (belowThen B1 hb)
  have HL0 := dHide fun W (hb : Below w0.heap.size w0 W) => dUnhide HL W (belowThen B1 hb)
  have hb1 : Below w0.heap.size w0 (w0.drew.alloc (.cells #[] 28)) := belowThen (Below.refl _ _).drew (ba _ _)
  have hb2 : Below w0.heap.size w0 ((w0.drew.alloc (.cells #[] 28)).alloc (.cells #[] 28)) := belowThen hb1 (ba _ _)
  clear HK HL
  go_region_held3 (fun W => W.cell? ⟨w.heap.size, 0, none⟩ = some (.slice ka s.kept.length kc) ∧ W.cell? ⟨w.heap.size, 1, none⟩ = some (.slice la s.late.length lc) ∧ W.cell? ⟨w.heap.size, 2, none⟩ = some (.int .i64 sl)) (first | exact ⟨set_other (set_other (set_other q0 (.inl (by omega))) (.inl (by omega))) (.inl (by omega)), set_other (set_other (set_other q1 (.inl (by omega))) (.inl (by omega))) (.inl (by omega)), set_other (set_other (set_other q2 (.inl (by omega))) (.inl (by omega))) (.inl (by omega))⟩ | exact ⟨q0, q1, q2⟩ | exact ⟨p0, p1, p2⟩ | go_keep)
    (first
      | (refine step_cpR elemE rfl _ _ rfl _ rfl _ s.late rfl (dUnhide HL0 _ (by first | exact hb5 | exact belowThen hb5 (ba _ _))) (by omega) ?_; intro v6 w6 P6 b6; have hb56 : Below w5.heap.size w5 w6 := by first | exact b6 | exact belowThen (ba _ _) b6
         have hb6 := belowThen hb5 hb56; have HT6 := dHide (touch_ne elemE P5 P6 (by simp <;> omega)); have HP5 := dHide ((P5.below hb56).mono (base' := w0.heap.size) (by have := hb1.size; have := hb2.size; simp <;> omega)); have q0 := ((dUnhide HX).below hb6 |>.2 0 _ rfl).1; have q1 := ((dUnhide HX).below hb6 |>.2 1 _ rfl).1; have q2 := ((dUnhide HX).below hb6 |>.2 2 _ rfl).1; obtain ⟨z0, f0⟩ := ((dUnhide HZ).below hb6).2 0 _ rfl; obtain ⟨z1, f1⟩ := ((dUnhide HZ).below hb6).2 1 _ rfl; obtain ⟨z2, f2⟩ := ((dUnhide HZ).below hb6).2 2 _ rfl; have HP6 := dHide (P6.mono (base' := w0.heap.size) (by have := hb5.size; simp <;> omega)); obtain ⟨a6, c6, rfl⟩ := ApR.slice elemE P6; clear P6 b6 hb56 P5)
      | (refine step_cpR elemE rfl _ _ rfl _ rfl _ s.kept rfl (dUnhide HK0 _ (by first | exact hb1 | exact hb2)) (by omega) ?_; intro v5 w5 P5 b5; have hb5 : Below w0.heap.size w0 w5 := by first | exact belowThen hb1 b5 | exact belowThen hb2 b5
         have p0 := ((dUnhide HX).below hb5 |>.2 0 _ rfl).1; have p1 := ((dUnhide HX).below hb5 |>.2 1 _ rfl).1; have p2 := ((dUnhide HX).below hb5 |>.2 2 _ rfl).1; obtain ⟨a5, c5, rfl⟩ := ApR.slice elemE P5; clear b5))
  all_goals
    have BB := (((belowThen B1 hb6).setCell (p := ⟨w.heap.size + 1, 0, none⟩) (Nat.le_succ _) (.slice a5 s.kept.length c5)).setCell (p := ⟨w.heap.size + 1, 1, none⟩) (Nat.le_succ _) (.slice a6 s.late.length c6)).setCell (p := ⟨w.heap.size + 1, 2, none⟩) (Nat.le_succ _) (.int .i64 sl)
    have ZZ := ((((dUnhide HZ).below hb6).put 0 (.slice a5 s.kept.length c5)).put 1 (.slice a6 s.late.length c6)).put 2 (.int .i64 sl)
    have e0 := (ZZ.2 0 _ rfl).1
    have e1 := (ZZ.2 1 _ rfl).1
    have e2 := (ZZ.2 2 _ rfl).1
    have OO := dHide (dUnhide EX _ _ _ (((ApR.far elemE (ApR.far elemE (ApR.far elemE (dUnhide HP5) (b := w.heap.size + 1) (o' := 0) (by omega) (.slice a5 s.kept.length c5)) (b := w.heap.size + 1) (o' := 1) (by omega) (.slice a6 s.late.length c6)) (b := w.heap.size + 1) (o' := 2) (by omega) (.int .i64 sl))).mono B1.size) (((ApR.far elemE (ApR.far elemE (ApR.far elemE (dUnhide HP6) (b := w.heap.size + 1) (o' := 0) (by omega) (.slice a5 s.kept.length c5)) (b := w.heap.size + 1) (o' := 1) (by omega) (.slice a6 s.late.length c6)) (b := w.heap.size + 1) (o' := 2) (by omega) (.int .i64 sl))).mono B1.size) (dUnhide HT6))
    clear ZZ HP5 HP6 HT6 z0 z1 z2 f0 f1 f2 q0 q1 q2 p0 p1 p2 k0 k1 k2 EX HZ HX HK0 HL0 hb1 hb2
    generalize (((w6.setCell ⟨w.heap.size + 1, 0, none⟩ (.slice a5 s.kept.length c5)).setCell ⟨w.heap.size + 1, 1, none⟩ (.slice a6 s.late.length c6)).setCell ⟨w.heap.size + 1, 2, none⟩ (.int .i64 sl)) = V at *
    go_wp2
    refine bodyPost_ret (v := .agg #[.slice a5 s.kept.length c5, .slice a6 s.late.length c6, .int .i64 sl]) (by simp [results, Try.results32, go_sem, e0, e1, e2]) rfl ⟨⟨_, rfl, dUnhide OO⟩, BB⟩
end Go.Proofs.Ytejmfohkobhidaa
namespace Go.Proofs.Ytejmfohkobhidaa
open Go.ChangeShapes Go.WideShapes Go.ChangeAt Go.RowKit
set_option linter.unusedVariables false
set_option linter.unusedSimpArgs false
set_option maxRecDepth 100000

def RdStore (v : Value) (m : St) (W : World) : Prop := Rs W v m
def OwStore (lo hi : Nat) (v : Value) (m : St) (W : World) : Prop := ∃ kv lv, v = .agg #[kv, lv, .int .i64 m.lock] ∧ OwEntryS lo hi kv m.kept W ∧ OwEntryS lo hi lv m.late W ∧ (m.kept = [] ∨ m.late = [] ∨ blockOf kv ≠ blockOf lv)
def sizStore (m : St) : Nat := sizEntryS m.kept + sizEntryS m.late
def cntStore (m : St) : Nat := cntEntryS m.kept + cntEntryS m.late
def mkStore (k : Nat) (m : St) : St := ⟨mkEntryS k m.kept, mkEntryS (k + cntEntryS m.kept) m.late, m.lock⟩
theorem OwStore.rd {lo hi : Nat} {v : Value} {m : St} {W : World} (h : OwStore lo hi v m W) : RdStore v m W := by
  obtain ⟨kv, lv, h1, h2, h3, -⟩ := h
  exact ⟨kv, lv, h1, h2.rd, h3.rd⟩
theorem RdStore.below {v : Value} {m : St} {W W' : World} (h : RdStore v m W) (b : Below W.heap.size W W') : RdStore v m W' := Rs.below h b
theorem formStore {v : Value} {m : St} {W : World} (h : RdStore v m W) : ∃ ka kc la lc, v = .agg #[.slice ka m.kept.length kc, .slice la m.late.length lc, .int .i64 m.lock] ∧ m.kept.length ≤ 9223372036854775807 ∧ m.late.length ≤ 9223372036854775807 := by
  obtain ⟨kv, lv, rfl, h2, h3⟩ := h
  obtain ⟨ka, kc, rfl, e1⟩ := formEntryS h2
  obtain ⟨la, lc, rfl, e2⟩ := formEntryS h3
  exact ⟨ka, kc, la, lc, rfl, e1, e2⟩
theorem OwStore.sits {lo hi : Nat} {w : World} {v : Value} {m : St} (h : OwStore lo hi v m w) (hf : hi ≤ w.heap.size) : Sits (OwStore lo hi v m) lo hi w := by
  obtain ⟨kv, lv, h1, h2, h3, h4⟩ := h
  have s2 := h2.sits hf
  have s3 := h3.sits hf
  exact ⟨hf, fun W hW => ⟨kv, lv, h1, s2.all W hW, s3.all W hW, h4⟩⟩
theorem cntStore_le {m : St} (h : sizStore m ≤ 1048576) : cntStore m ≤ 8388608 := by
  unfold sizStore at h
  have h1 := cntEntryS_le (m := m.kept) (by omega)
  have h2 := cntEntryS_le (m := m.late) (by omega)
  unfold cntStore
  omega
/-- Texts of a store. -/
def txtS (m : St) : Prop := txtE m.kept ∧ txtE m.late
/-- What spec's and impl's stores leave is such a store. -/
theorem OwS.sits {w : World} {base : Nat} {v : Value} {s : St} (h : OwS w base v s) : Sits (OwStore base w.heap.size v s) base w.heap.size w := by
  obtain ⟨kv, lv, h1, h2, h3, h4⟩ := h
  have o2 := ApR.own elemE h2
  have o3 := ApR.own elemE h3
  refine OwStore.sits ⟨kv, lv, h1, ⟨o2, o2.lt⟩, ⟨o3, o3.lt⟩, ?_⟩ (Nat.le_refl _)
  by_cases hk : s.kept = []
  · exact .inl hk
  · by_cases hl : s.late = []
    · exact .inr (.inl hl)
    · right; right
      have tb : ∀ {u : Value} {ms : List Ent}, ApE w base u ms → ms ≠ [] → touch u = some (blockOf u) := fun {u ms} hu hm => by
        rcases hu with ⟨h, -⟩ | hu
        · exact absurd h hm
        · rcases hu.2 with ⟨-, h0⟩ | ⟨g, cap, cur, rfl, -, -, hnc, -⟩
          · exact absurd (List.length_eq_zero_iff.1 h0) hm
          · have : ms.length ≠ 0 := fun e => hm (List.length_eq_zero_iff.1 e)
            have hc : cap ≠ 0 := by omega
            simp [touch, hc, blockOf]
      have t1 := tb h2 hk
      have t2 := tb h3 hl
      intro e
      rcases h4 with h4 | h4
      · rw [t1] at h4; cases h4
      · exact h4 (by rw [t1, t2, e])
end Go.Proofs.Ytejmfohkobhidaa
namespace Go.Proofs.Ytejmfohkobhidaa
open Go.ChangeShapes Go.WideShapes Go.ChangeAt Go.RowKit
set_option linter.unusedVariables false
set_option linter.unusedSimpArgs false
set_option maxRecDepth 100000

theorem OwnRw.farE {w : World} {base b o : Nat} {v : Value} {m : List Ent} (h : OwnRw 4 Ent.cl w base v m) (hb : b < base) (u : Value) : OwnRw 4 Ent.cl (w.setCell ⟨b, o, none⟩ u) base v m := by
  obtain ⟨h0, a, cap, rfl, hcap, h⟩ := h
  refine ⟨h0, a, cap, rfl, hcap, ?_⟩
  rcases h with h | ⟨b', off, rfl, hb', hc⟩
  · exact .inl h
  · exact .inr ⟨b', off, rfl, hb', fun i hi j u' hu => ⟨set_other (hc i hi j u' hu).1 (.inl (by omega)), (World.frozen?_setCell _ _ _ _).trans (hc i hi j u' hu).2⟩⟩
theorem OwEntryS.wr {lo hi lo' hi' : Nat} {v : Value} {m : List Ent} {w w' : World} (h : OwEntryS lo hi v m w) (hw : Wr lo' hi' w w') (hne : m = [] ∨ blockOf v < lo' ∨ hi' ≤ blockOf v) : OwEntryS lo hi v m w' := by
  have hlt := h.1.lt
  obtain ⟨⟨h0, a, cap, rfl, hcap, h⟩, hl⟩ := h
  refine ⟨⟨h0, a, cap, rfl, hcap, ?_⟩, hl⟩
  rcases hne with hne | hne
  · exact .inl hne
  · rcases h with h | ⟨b', off, rfl, hb, hc⟩
    · exact .inl h
    · rcases hlt with hlt | hlt
      · exact .inl hlt
      · have e := hw.block b' hlt hne
        exact .inr ⟨b', off, rfl, hb, fun i hi j u hu => ⟨(World.cell?_of_block (a := ⟨b', off + i * 4 + j, none⟩) e).trans (hc i hi j u hu).1, (World.frozen?_of_block (a := ⟨b', off + i * 4 + j, none⟩) e).trans (hc i hi j u hu).2⟩⟩
/-- A list of its own block alone. -/
theorem OwEntryS.narrow {lo hi : Nat} {v : Value} {m : List Ent} {w : World} (h : OwEntryS lo hi v m w) (hm : m ≠ []) : OwEntryS (blockOf v) (blockOf v + 1) v m w ∧ lo ≤ blockOf v ∧ blockOf v < hi := by
  have h1 := h.1.ge.resolve_left hm
  have h2 := h.2.resolve_left hm
  refine ⟨⟨?_, .inr (by omega)⟩, h1, h2⟩
  obtain ⟨⟨h0, a, cap, rfl, hcap, h⟩, -⟩ := h
  refine ⟨h0, a, cap, rfl, hcap, ?_⟩
  rcases h with h | ⟨b', off, rfl, hb, hc⟩
  · exact .inl h
  · exact .inr ⟨b', off, rfl, Nat.le_refl _, hc⟩
theorem OwEntryS.wide {lo hi lo' hi' : Nat} {v : Value} {m : List Ent} {w : World} (h : OwEntryS lo hi v m w) (h1 : lo' ≤ lo) (h2 : hi ≤ hi') : OwEntryS lo' hi' v m w := ⟨h.1.mono h1, by rcases h.2 with h | h; exact .inl h; exact .inr (by omega)⟩
theorem mkEntryS_nil {k : Nat} {m : List Ent} : mkEntryS k m = [] ↔ m = [] := by
  rw [← List.length_eq_zero_iff, ← List.length_eq_zero_iff, mkEntryS_len]
end Go.Proofs.Ytejmfohkobhidaa
