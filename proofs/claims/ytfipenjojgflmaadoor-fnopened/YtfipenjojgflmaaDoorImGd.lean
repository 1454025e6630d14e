/- impl's: the two errors; the copy that a change writes into; closeFirst, trimUpTo. -/
import Derived.Test.YtfipenjojgflmaaDoorImGc
import Derived.Test.YtfipenjojgflmaaDoorIsE
import Derived.Test.YtfipenjojgflmaaDoorImGf
import Derived.Test.YtfipenjojgflmaaDoorRgH
namespace Go.Proofs.YtfipenjojgflmaaDoor
open Go.ChangeShapes Go.WideShapes Go.ChangeAt Go.RowKit
set_option linter.unusedVariables false
set_option linter.unusedSimpArgs false
set_option maxRecDepth 100000

/-- The package's two errors: different ones. -/
def Snt (w : World) (a0 a1 : Addr) : Prop := w.cell? ⟨0, 0, none⟩ = some (.iface 127 (.pointer (some a0))) ∧ w.cell? ⟨1, 0, none⟩ = some (.iface 127 (.pointer (some a1))) ∧ a0 ≠ a1 ∧
  (∃ c0 t0, w.heap[a0.block]? = some (.cells c0 t0 (0, 0))) ∧ ∃ c1 t1, w.heap[a1.block]? = some (.cells c1 t1 (0, 0))
theorem Snt.lt {w : World} {a0 a1 : Addr} (h : Snt w a0 a1) : 0 < w.heap.size ∧ 1 < w.heap.size ∧ a0.block < w.heap.size ∧ a1.block < w.heap.size := by
  obtain ⟨h1, h2, -, ⟨c0, t0, h3⟩, c1, t1, h4⟩ := h
  exact ⟨dCell_lt h1, dCell_lt h2, (Array.getElem?_eq_some_iff.1 h3).1, (Array.getElem?_eq_some_iff.1 h4).1⟩
theorem Snt.below {w w' : World} {a0 a1 : Addr} {B : Nat} (h : Snt w a0 a1) (hb : Below B w w') (hB : w.heap.size ≤ B) : Snt w' a0 a1 := by
  obtain ⟨l1, l2, l3, l4⟩ := h.lt
  obtain ⟨h1, h2, hn, ⟨c0, t0, h3⟩, c1, t1, h4⟩ := h
  exact ⟨(hb.cell (p := ⟨0, 0, none⟩) (by simp only; omega)).trans h1, (hb.cell (p := ⟨1, 0, none⟩) (by simp only; omega)).trans h2, hn, ⟨c0, t0, (hb.block _ (by omega)).trans h3⟩, c1, t1, (hb.block _ (by omega)).trans h4⟩
/-- A register's copy in the box b, its row and lists in the blocks lo .. b - 1. -/
def CpyAt (w : World) (lo b : Nat) (u : Value) (m : Rg) : Prop :=
  BxZ w lo b [u, .int .i64 m.trim] ∧ ∃ rs : List (Nst Er), rs.map Nst.m = m.eras ∧ ApR 37 3 erCl w lo u rs ∧ (∀ p ∈ rs, OwnN w lo (Sv Er.nodes p) p.m.nodes) ∧
    (∀ i j (hi : i < rs.length) (hj : j < rs.length), i ≠ j → rs[i].m.nodes = [] ∨ rs[j].m.nodes = [] ∨ blockOf (Sv Er.nodes rs[i]) ≠ blockOf (Sv Er.nodes rs[j])) ∧ (∀ i (hi : i < rs.length), rs[i].m.nodes = [] ∨ touch u ≠ some (blockOf (Sv Er.nodes rs[i]))) ∧
    (∀ j, touch u = some j → j < b) ∧ ∀ p ∈ rs, p.m.nodes = [] ∨ blockOf (Sv Er.nodes p) < b
theorem CpyAt.below {w w' : World} {lo b : Nat} {u : Value} {m : Rg} (h : CpyAt w lo b u m) (hb : Below w.heap.size w w') : CpyAt w' lo b u m := by
  obtain ⟨h0, rs, h1, h2, h3, h4, h5, h6, h7⟩ := h
  exact ⟨h0.below hb, rs, h1, h2.below hb, fun p hp => (h3 p hp).below hb, h4, h5, h6, h7⟩
theorem CpyAt.new {w : World} {lo : Nat} {u : Value} {m : Rg} (h : NAp w lo u m.eras) (T : TypeId) (hl : lo ≤ w.heap.size) : CpyAt (w.alloc (.cells #[u, .int .i64 m.trim] T)) lo w.heap.size u m := by
  obtain ⟨rs, h1, h2, h3, h4, h5⟩ := h
  have hb : Below w.heap.size w (w.alloc (.cells #[u, .int .i64 m.trim] T)) := (Below.refl _ _).alloc (Nat.le_refl _) _
  exact ⟨BxZ.new w [u, .int .i64 m.trim] T hl, rs, h1, h2.below hb, fun p hp => (h3 p hp).below hb, h4, h5, fun j hj => (h2.touched elemR hj).2, fun p hp => (h3 p hp).bs.lt⟩
theorem CpyAt.ow {w : World} {lo b : Nat} {u : Value} {m : Rg} (h : CpyAt w lo b u m) : OwEraS lo b u m.eras w := by
  obtain ⟨h0, rs, h1, h2, h3, h4, h5, h6, h7⟩ := h
  have o := ApR.own elemR h2
  have tb : rs ≠ [] → touch u = some (blockOf u) := fun hne => by
    rcases h2 with ⟨h0, -⟩ | hu
    · exact absurd h0 hne
    · rcases hu.2 with ⟨-, h0⟩ | ⟨g, cap, cur, rfl, -, -, hnc, -⟩
      · exact absurd (List.length_eq_zero_iff.1 h0) hne
      · have : rs.length ≠ 0 := fun e => hne (List.length_eq_zero_iff.1 e)
        have hc : cap ≠ 0 := by omega
        simp [touch, hc, blockOf]
  refine ⟨rs, h1, o, ?_, fun p hp => ⟨h3 p hp, h7 p hp⟩, h4, fun i hi => ?_⟩
  · by_cases hne : rs = []
    · exact .inl hne
    · exact .inr (h6 _ (tb hne))
  · rcases h5 i hi with h | h
    · exact .inl h
    · right
      intro e
      exact h (by rw [tb (fun h => by subst h; simp at hi), e])
theorem CpyAt.rd {w : World} {lo b : Nat} {u : Value} {m : Rg} (h : CpyAt w lo b u m) : RdRegister (.agg #[u, .int .i64 m.trim]) m w := ⟨u, rfl, OwK.rd h.ow⟩
theorem CpyAt.slice {w : World} {lo b : Nat} {u : Value} {m : Rg} (h : CpyAt w lo b u m) : ∃ a c, u = .slice a m.eras.length c ∧ m.eras.length ≤ 9223372036854775807 := formK (OwK.rd h.ow)
/-- What a change leaves in the box b. -/
def ChgTo (w : World) (lo b : Nat) (m : Rg) : Prop := ∃ a c, BxZ w lo b [.slice a m.eras.length c, .int .i64 m.trim] ∧ OwEraS lo w.heap.size (.slice a m.eras.length c) m.eras w ∧ Shp w b
/-- What a change answers: refused, or done. -/
def ChgEnd (a1 : Addr) (lo b : Nat) (res : Option Rg) (e : Ending) (w' : World) : Prop :=
  match res with
  | none => e = .returned (.iface 127 (.pointer (some a1)))
  | some m' => e = .returned .nilIface ∧ ChgTo w' lo b m'
theorem chgTo_put1 {w : World} {lo b : Nat} {u : Value} {m : Rg} (h : CpyAt w lo b u m) (hSh : Shp w b) (x : Int) : ChgTo (w.setCell ⟨b, 1, none⟩ (.int .i64 x)) lo b ⟨m.eras, x⟩ := by
  obtain ⟨a, c, rfl, -⟩ := h.slice
  have hlt := h.1.lt
  exact ⟨a, c, h.1.put 1 _, OwK.wide ((OwK.sits h.ow (by omega)).setFar (.inr (Nat.le_refl _)) _).now (Nat.le_refl _) (by rw [World.size_setCell]; omega), hSh.set _⟩
open Classical in
/-- The change of RegTrim. -/
noncomputable def trimO (m : Rg) (x : Int) : Option Rg := if plIn m.eras.length x then some ⟨m.eras, max m.trim x⟩ else none
open Classical in
/-- The change of RegClose. -/
noncomputable def closeO (m : Rg) (x y : Int) : Option Rg := if closeP m x y then some ⟨closeE m.eras (firstO m.eras - 1) y, m.trim⟩ else none
theorem chgTo_close {w : World} {lo b k : Nat} {u : Value} {m : Rg} (h : CpyAt w lo b u m) (hSh : Shp w b) (hk : k < m.eras.length) (y : Int) : ∃ g off c, u = .slice (some ⟨g, off, none⟩) m.eras.length c ∧ lo ≤ g ∧ g < b ∧ (∃ q, w.cell? ⟨g, off + k * 3 + 1, none⟩ = some q) ∧ (∃ q, (w.setCell ⟨g, off + k * 3 + 1, none⟩ (.bool true)).cell? ⟨g, off + k * 3 + 2, none⟩ = some q) ∧ w.frozen? ⟨g, off + k * 3 + 1, none⟩ = false ∧ (w.setCell ⟨g, off + k * 3 + 1, none⟩ (.bool true)).frozen? ⟨g, off + k * 3 + 2, none⟩ = false ∧
    ChgTo ((w.setCell ⟨g, off + k * 3 + 1, none⟩ (.bool true)).setCell ⟨g, off + k * 3 + 2, none⟩ (.int .i64 y)) lo b ⟨closeE m.eras k y, m.trim⟩ := by
  obtain ⟨a, c, rfl, -⟩ := h.slice
  have hlt := h.1.lt
  obtain ⟨g, off, rfl, g1, g2, ⟨c0, c1, c2, k0, k1, k2⟩, hfz, W1, -⟩ := OwK.put h.ow hk
  have hkS : k < (m.eras.set k ⟨m.eras[k].nodes, true, m.eras[k].last⟩).length := by simpa using hk
  obtain ⟨b', off', e', -, -, ⟨d0, d1, d2, j0, j1, j2⟩, hfz', -, W2⟩ := OwK.put (W1 true) hkS
  cases e'
  have OW2 := W2 y
  rw [List.getElem_set_self hkS] at OW2
  refine ⟨g, off, c, rfl, g1, g2, ⟨_, k1⟩, ⟨_, j2⟩, hfz 1 (by decide), hfz' 2 (by decide), some ⟨g, off, none⟩, c, ?_, ?_, (hSh.set _).set _⟩
  · have e1 : (closeE m.eras k y).length = m.eras.length := by simp [closeE]
    simp only [e1]
    exact (h.1.far (by omega) _).far (by omega) _
  · have e1 : (closeE m.eras k y).length = m.eras.length := by simp [closeE]
    simp only [e1]
    have eM : closeE m.eras k y = ((m.eras.set k ⟨m.eras[k].nodes, true, m.eras[k].last⟩).set k ⟨m.eras[k].nodes, true, y⟩) := by
      unfold closeE
      rw [getD_lt _ hk, List.set_set]
    rw [eM]
    exact OwK.wide OW2 (Nat.le_refl _) (by rw [World.size_setCell, World.size_setCell]; omega)
set_option maxHeartbeats 4000000 in
theorem closeFirst_any (w : World) (lo b : Nat) (u : Value) (m : Rg) (x y : Int) (a0 a1 : Addr) (h : CpyAt w lo b u m) (hSh : Shp w b) (hS : Snt w a0 a1) (hlo : lo ≤ w.heap.size) (okx : okInt x) (oky : okInt y) (hs : m.eras.length ≤ 1048576) (hO : firstO m.eras = 0 → m.eras.length = 0) :
    Calls Tryd.prog 45 #[.pointer (some ⟨b, 0, none⟩), .int .i64 x, .int .i64 y] w fun e w' => ChgEnd a1 lo b (closeO m x y) e w' ∧ Below lo w w' := by
  have HSh := dHide hSh
  have CF := dHide fun W (hb : Below w.heap.size w W) => implFirst_any _ m W (h.rd.below hb) hs
  have CL := dHide fun W (hb : Below w.heap.size w W) => lastEpoch_any _ m W (h.rd.below hb)
  have H := dHide h
  have HS := dHide hS
  have p0 := (h.1.2 0 _ rfl).1
  have p1 := (h.1.2 1 _ rfl).1
  obtain ⟨a, c, rfl, -⟩ := h.slice
  have hlb := h.1.1
  have hfl := firstO_le m.eras
  obtain ⟨o1, o2⟩ := okx
  obtain ⟨o3, o4⟩ := oky
  have NB : Hid (∀ W, Below w.heap.size w W → Below lo w W) := fun W b1 => ⟨b1.os, b1.tape, b1.output, b1.size, fun k hk => b1.block k (by omega)⟩
  have FIRST : Hid (∀ W, Below w.heap.size w W → W.cell? ⟨b, 0, none⟩ = some (.slice a m.eras.length c) ∧ W.cell? ⟨b, 1, none⟩ = some (.int .i64 m.trim)) := fun W hb => ⟨((dUnhide H).below hb).1.2 0 _ rfl |>.1, ((dUnhide H).below hb).1.2 1 _ rfl |>.1⟩
  by_cases hP : closeP m x y
  · have e0 : closeO m x y = some ⟨closeE m.eras (firstO m.eras - 1) y, m.trim⟩ := if_pos hP
    rw [e0]
    obtain ⟨h1, h2, h3, h4, h5⟩ := hP
    obtain ⟨k, hk, e1, -, -⟩ := firstO_pos h2
    rw [e1] at CF h3 hfl ⊢
    simp only [Nat.add_sub_cancel]
    have hb1 : (x != (m.eras.length : Int)) = false := by simp [h1]
    have hb5 : (x == (k : Int) + 1) = false := by simp; omega
    have hb7 : ((m.eras.length : Int) == (k : Int) + 1) = false := by simp; omega
    have hb6 : (m.eras.length == k + 1) = false := by simp; omega
    have ek : ((k + 1 : Nat) : Int) - 1 = (k : Int) := by omega
    clear h2 h3 e0 h hS e1
    go_enter Tryd.func45, Tryd.ntmps45
    go_wp2_with fail
    refine (dUnhide CF _ (Below.refl _ _)).mono ?_
    rintro e w1 ⟨rfl, b1⟩
    obtain ⟨q0, q1⟩ := dUnhide FIRST w1 b1
    clear CF p0 p1
    go_wp2_with fail
    refine (dUnhide CL _ b1).mono ?_
    rintro e w2 ⟨rfl, b2⟩
    have b2' := belowThen b1 b2
    obtain ⟨p0, p1⟩ := dUnhide FIRST w2 b2'
    obtain ⟨g, off, c', e', g1, g2, ⟨y1, k1⟩, ⟨y2, k2⟩, f1, f2, G⟩ := chgTo_close ((dUnhide H).below b2') ((dUnhide HSh).below b2') hk y
    cases e'
    have HG := dHide G
    have BB := dHide (((dUnhide NB w2 b2').setCell (p := ⟨g, off + k * 3 + 1, none⟩) g1 (.bool true)).setCell (p := ⟨g, off + k * 3 + 2, none⟩) g1 (.int .i64 y))
    clear CL q0 q1 G
    go_wp2
    go_ret
    exact ⟨⟨rfl, dUnhide HG⟩, dUnhide BB⟩
  · have e0 : closeO m x y = none := if_neg hP
    rw [e0]
    have FIN : Hid (∀ W, Below w.heap.size w W → W.cell? ⟨1, 0, none⟩ = some (.iface 127 (.pointer (some a1)))) := fun W hb => ((dUnhide HS).below hb (Nat.le_refl _)).2.1
    clear e0 h hS
    go_enter Tryd.func45, Tryd.ntmps45
    go_wp2_with fail
    refine (dUnhide CF _ (Below.refl _ _)).mono ?_
    rintro e w1 ⟨rfl, b1⟩
    obtain ⟨q0, q1⟩ := dUnhide FIRST w1 b1
    clear CF p0 p1
    go_wp2_with fail
    refine (dUnhide CL _ b1).mono ?_
    rintro e w2 ⟨rfl, b2⟩
    have b2' := belowThen b1 b2
    have g1 := dUnhide FIN w2 b2'
    have BB := dHide (dUnhide NB w2 b2')
    clear CL q0 q1 b1 b2 b2'
    by_cases h1 : x = (m.eras.length : Int)
    · have hb1 : (x != (m.eras.length : Int)) = false := by simp [h1]
      by_cases h3 : x = (firstO m.eras : Int)
      · have hb3 : (x == (firstO m.eras : Int)) = true := by simp [h3]
        have hb4 : ((m.eras.length : Int) == (firstO m.eras : Int)) = true := by simp; omega
        have hb5 : (m.eras.length == firstO m.eras) = true := by simp; omega
        clear hP h3 hO
        go_wp2
        go_ret
        exact ⟨rfl, dUnhide BB⟩
      · have hb3 : (x == (firstO m.eras : Int)) = false := by simp [h3]
        have hb4 : ((m.eras.length : Int) == (firstO m.eras : Int)) = false := by simp; omega
        have hb5 : (m.eras.length == firstO m.eras) = false := by simp; omega
        by_cases h4 : y < 0
        · clear hP h3 hO
          go_wp2
          go_ret
          exact ⟨rfl, dUnhide BB⟩
        · have h5 : 60 < y := by
            apply Classical.byContradiction
            intro hn
            refine hP ⟨h1, fun h0 => ?_, h3, by omega, by omega⟩
            have := hO h0
            omega
          clear hP h3 hO
          go_wp2
          go_ret
          exact ⟨rfl, dUnhide BB⟩
    · have hb1 : (x != (m.eras.length : Int)) = true := by simp [h1]
      clear hP hO
      go_wp2
      go_ret
      exact ⟨rfl, dUnhide BB⟩
end Go.Proofs.YtfipenjojgflmaaDoor
