/- Several texts in one: PkF, PrA, PrB. -/
import Derived.Test.YthndkkjgjhgdnaaGreatDoorGk79
import Derived.Test.YthndkkjgjhgdnaaGreatDoorGaC
import Derived.Test.YthndkkjgjhgdnaaGreatDoorGaA
import Derived.Deep.RegionHeld3
import Derived.Deep.DeepCutAuto
import Derived.Test.YthndkkjgjhgdnaaGreatDoorGk68
import Derived.Stop.IfaceNil
namespace Go.Proofs.YthndkkjgjhgdnaaGreatDoor
open Go.ChangeShapes Go.WideShapes Go.ChangeAt Go.RowKit
set_option linter.unusedVariables false
set_option linter.unusedSimpArgs false
set_option maxRecDepth 100000

open Classical in
/-- ConfigRead. -/
noncomputable def cfgR (bs : List UInt8) : List Int × Int × Bool :=
  if endB bs (rdN bs (rdL bs 0 true).2.1 (rdL bs 0 true).2.2).2.1 (rdN bs (rdL bs 0 true).2.1 (rdL bs 0 true).2.2).2.2 = true ∧ cfgP (rdL bs 0 true).1 (rdN bs (rdL bs 0 true).2.1 (rdL bs 0 true).2.2).1 then ((rdL bs 0 true).1, (rdN bs (rdL bs 0 true).2.1 (rdL bs 0 true).2.2).1, true) else ([], 0, false)
theorem rdK_le (bs : List UInt8) (n q : Nat) (ok : Bool) (hq : q ≤ bs.length) : (rdK bs n q ok).2.1 ≤ bs.length := by
  induction n generalizing q ok with
  | zero => exact hq
  | succ n ih =>
    cases ok
    · exact hq
    · rw [rdK_succ]
      exact ih _ _ (rdN_step hq).2.2.1
theorem rdN_le (bs : List UInt8) (q : Nat) (ok : Bool) (hq : q ≤ bs.length) : (rdN bs q ok).2.1 ≤ bs.length := by
  cases ok
  · exact hq
  · exact (rdN_step hq).2.2.1
theorem rdL_le (bs : List UInt8) (q : Nat) (ok : Bool) (hq : q ≤ bs.length) : (rdL bs q ok).2.1 ≤ bs.length := rdK_le _ _ _ _ (rdN_le _ _ _ hq)
theorem OwnN.setNe17 {w : World} {lo b o : Nat} {v : Value} {xs : List Int} (h : OwnN w lo v xs) (hb : xs = [] ∨ blockOf v ≠ b) (u : Value) : OwnN (w.setCell ⟨b, o, none⟩ u) lo v xs := by
  obtain ⟨h0, a, cap, rfl, hcap, h⟩ := h
  refine ⟨h0, a, cap, rfl, hcap, ?_⟩
  rcases h with h | ⟨g, off, rfl, hg, hc⟩
  · exact .inl h
  · rcases hb with hb | hb
    · exact .inl hb
    · exact .inr ⟨g, off, rfl, hg, fun i hi => ⟨set_other (hc i hi).1 (.inl hb), (World.frozen?_setCell _ _ _ _).trans (hc i hi).2⟩⟩
theorem OwnN.ne17 {w : World} {lo : Nat} {v : Value} {xs : List Int} (h : OwnN w lo v xs) : xs = [] ∨ blockOf v ≠ w.heap.size := by
  obtain ⟨h0, a, cap, rfl, hcap, h⟩ := h
  rcases h with h | ⟨g, off, rfl, hg, hc⟩
  · exact .inl h
  · cases xs with
    | nil => exact .inl rfl
    | cons x xs =>
      have := dCell_lt (hc 0 (by simp)).1
      exact .inr (by simp only [blockOf] at this ⊢; omega)
theorem OwnN.drawn17 {bk : Nat} {w w' : World} {base : Nat} {v : Value} {xs : List Int} (h : OwnN w base v xs) (hd : Drawn bk w w') (hb : bk < base) : OwnN w' base v xs := by
  obtain ⟨h0, a, cap, rfl, hcap, h⟩ := h
  refine ⟨h0, a, cap, rfl, hcap, ?_⟩
  rcases h with h | ⟨b, off, rfl, hg, hc⟩
  · exact .inl h
  · exact .inr ⟨b, off, rfl, hg, fun i hi => ⟨hd.cell (hc i hi).1 (by omega), (hd.frozen (by omega) (dCell_lt (hc i hi).1)).trans (hc i hi).2⟩⟩
theorem below_two17 {B b : Nat} {w w' : World} (hb : Below B w w') (h : B ≤ b) (u v : Value) : Below B w ((w'.setCell ⟨b, 0, none⟩ u).setCell ⟨b, 1, none⟩ v) := (hb.setCell (p := ⟨b, 0, none⟩) h u).setCell (p := ⟨b, 1, none⟩) h v
theorem BxZ.two17 {w : World} {B b : Nat} {p q : Value} (h : BxZ w B b [p, q]) (u v : Value) : Bx ((w.setCell ⟨b, 0, none⟩ u).setCell ⟨b, 1, none⟩ v) b [u, v] := ((h.put 0 u).put 1 v).bx
theorem Bs.ne17 {w : World} {v : Value} {bs : List UInt8} (h : Bs w v bs) : bs = [] ∨ blockOf v ≠ w.heap.size + 1 := by
  by_cases e : bs = []
  · exact .inl e
  · exact .inr (by have := h.lt e; omega)
theorem cfgR_yes (bs : List UInt8) (h : endB bs (rdN bs (rdL bs 0 true).2.1 (rdL bs 0 true).2.2).2.1 (rdN bs (rdL bs 0 true).2.1 (rdL bs 0 true).2.2).2.2 = true ∧ cfgP (rdL bs 0 true).1 (rdN bs (rdL bs 0 true).2.1 (rdL bs 0 true).2.2).1) : cfgR bs = ((rdL bs 0 true).1, (rdN bs (rdL bs 0 true).2.1 (rdL bs 0 true).2.2).1, true) := if_pos h
theorem cfgR_no (bs : List UInt8) (h : ¬ (endB bs (rdN bs (rdL bs 0 true).2.1 (rdL bs 0 true).2.2).2.1 (rdN bs (rdL bs 0 true).2.1 (rdL bs 0 true).2.2).2.2 = true ∧ cfgP (rdL bs 0 true).1 (rdN bs (rdL bs 0 true).2.1 (rdL bs 0 true).2.2).1)) : cfgR bs = ([], 0, false) := if_neg h
end Go.Proofs.YthndkkjgjhgdnaaGreatDoor
namespace Go.Proofs.YthndkkjgjhgdnaaGreatDoor
open Go.ChangeShapes Go.WideShapes Go.ChangeAt Go.RowKit
set_option linter.unusedVariables false
set_option linter.unusedSimpArgs false
set_option maxRecDepth 100000

/-- What is wrong: from which byte on. -/
def wrg (p : Int) : Value := .iface 105 (.agg #[.int .i64 p])
/-- The reader in its block ab + 1, its place in the block ab: what it holds of what is wrong, and where it is. -/
def RcW (W : World) (ab : Nat) (v wr : Value) (y : Int) : Prop := BxZ W ab (ab + 1) [v, .pointer (some ⟨ab, 0, none⟩), wr] ∧ Plc W ab y
/-- .. all was right up to q, or something was wrong. -/
def Rc (W : World) (ab : Nat) (v : Value) (q : Nat) (ok : Bool) : Prop := if ok = true then RcW W ab v .nilIface (q : Int) else ∃ p y, RcW W ab v (wrg p) y
theorem Rc.yes {W : World} {ab : Nat} {v : Value} {q : Nat} (h : RcW W ab v .nilIface (q : Int)) : Rc W ab v q true := by unfold Rc; rw [if_pos rfl]; exact h
theorem Rc.no {W : World} {ab q : Nat} {v : Value} {p y : Int} (h : RcW W ab v (wrg p) y) : Rc W ab v q false := by unfold Rc; rw [if_neg (by simp)]; exact ⟨p, y, h⟩
theorem Rc.isYes {W : World} {ab : Nat} {v : Value} {q : Nat} (h : Rc W ab v q true) : RcW W ab v .nilIface (q : Int) := by unfold Rc at h; rwa [if_pos rfl] at h
theorem Rc.isNo {W : World} {ab q : Nat} {v : Value} (h : Rc W ab v q false) : ∃ p y, RcW W ab v (wrg p) y := by unfold Rc at h; rwa [if_neg (by simp)] at h
theorem RcW.below {W W' : World} {ab : Nat} {v wr : Value} {y : Int} (h : RcW W ab v wr y) (hb : Below W.heap.size W W') : RcW W' ab v wr y := ⟨h.1.below hb, h.2.below hb⟩
theorem Rc.below {W W' : World} {ab q : Nat} {v : Value} {ok : Bool} (h : Rc W ab v q ok) (hb : Below W.heap.size W W') : Rc W' ab v q ok := by
  cases ok
  · obtain ⟨p, y, h⟩ := h.isNo
    exact Rc.no (h.below hb)
  · exact Rc.yes (h.isYes.below hb)
theorem RcW.lt {W : World} {ab : Nat} {v wr : Value} {y : Int} (h : RcW W ab v wr y) : ab + 2 ≤ W.heap.size := by have := h.1.lt; omega
theorem Rc.lt {W : World} {ab q : Nat} {v : Value} {ok : Bool} (h : Rc W ab v q ok) : ab + 2 ≤ W.heap.size := by
  cases ok
  · obtain ⟨p, y, h⟩ := h.isNo; exact h.lt
  · exact h.isYes.lt
theorem Plc.setX {w : World} {pk b o : Nat} {x : Int} {u : Value} (h : Plc w pk x) (hb : pk ≠ b) : Plc (w.setCell ⟨b, o, none⟩ u) pk x := ⟨set_other h.1 (.inl hb), (World.frozen?_setCell _ _ _ _).trans h.2⟩
theorem Wr.setCell {lo hi b o : Nat} {w w' : World} {u : Value} (h : Wr lo hi w w') (h1 : lo ≤ b) (h2 : b < hi) : Wr lo hi w (w'.setCell ⟨b, o, none⟩ u) :=
  h.trans (Wr.of_drawn ((Drawn.refl b w').setCell o u) h1 h2)
set_option maxHeartbeats 2000000 in
theorem refuse_new (ab : Nat) (v : Value) (y p : Int) (w : World) (h : RcW w ab v .nilIface y) :
    Calls Tryz.prog 96 #[.pointer (some ⟨ab + 1, 0, none⟩), .int .i64 p] w fun e w' => e = .returned (.tuple #[]) ∧ RcW w' ab v (wrg p) y ∧ Wr ab (ab + 2) w w' := by
  obtain ⟨hX, hP⟩ := h
  obtain ⟨d2, g2⟩ := hX.2 2 _ rfl
  have F := dHide (And.intro (And.intro (hX.put 2 (wrg p)) (hP.setX (o := 2) (u := wrg p) (b := ab + 1) (by omega))) ((Wr.refl ab (ab + 2) w).setCell (b := ab + 1) (o := 2) (u := wrg p) (by omega) (by omega)))
  clear hX hP
  go_enter Tryz.func96, Tryz.ntmps96
  go_wp2
  go_returns
  exact ⟨rfl, (dUnhide F).1, (dUnhide F).2⟩
set_option maxHeartbeats 2000000 in
theorem refuse_old (ab : Nat) (v : Value) (y p q : Int) (w : World) (h : RcW w ab v (wrg q) y) :
    Calls Tryz.prog 96 #[.pointer (some ⟨ab + 1, 0, none⟩), .int .i64 p] w fun e w' => e = .returned (.tuple #[]) ∧ w' = w := by
  obtain ⟨d2, g2⟩ := h.1.2 2 _ rfl
  unfold wrg at d2
  go_enter Tryz.func96, Tryz.ntmps96
  go_wp2
  go_returns
  exact ⟨rfl, rfl⟩
set_option maxHeartbeats 2000000 in
theorem number_good (ab : Nat) (v wr : Value) (x : Int) (y y' : Int) (w : World) (h : RcW w ab v wr y)
    (CN : Calls Tryz.prog 123 #[rdr v ab] w fun e w' => e = .returned (.tuple #[.int .i64 x, .bool true]) ∧ Plc w' ab y' ∧ Drawn ab w w') :
    Calls Tryz.prog 92 #[.pointer (some ⟨ab + 1, 0, none⟩)] w fun e w' => e = .returned (.int .i64 x) ∧ RcW w' ab v wr y' ∧ Wr ab (ab + 2) w w' := by
  obtain ⟨hX, hP⟩ := h
  obtain ⟨d0, -⟩ := hX.2 0 _ rfl
  obtain ⟨d1, -⟩ := hX.2 1 _ rfl
  obtain ⟨p0, -⟩ := hP
  unfold rdr at CN
  have CN := dHide CN
  go_enter Tryz.func92, Tryz.ntmps92
  go_wp2_with fail
  refine (dUnhide CN).mono ?_
  rintro e w1 ⟨rfl, hp1, hd1⟩
  have F := dHide (And.intro (⟨hX.drawn hd1 (by omega), hp1⟩ : RcW w1 ab v wr y') (Wr.of_drawn hd1 (Nat.le_refl ab) (show ab < ab + 2 by omega)))
  clear CN hX d0 d1 p0 hp1 hd1
  go_wp2
  go_ret
  exact ⟨rfl, (dUnhide F).1, (dUnhide F).2⟩
set_option maxHeartbeats 2000000 in
theorem number_new (ab : Nat) (v : Value) (y : Int) (w : World) (h : RcW w ab v .nilIface y)
    (CN : Calls Tryz.prog 123 #[rdr v ab] w fun e w' => e = .returned (.tuple #[.int .i64 0, .bool false]) ∧ Moved ab w w') :
    Calls Tryz.prog 92 #[.pointer (some ⟨ab + 1, 0, none⟩)] w fun e w' => e = .returned (.int .i64 0) ∧ (∃ p y', RcW w' ab v (wrg p) y') ∧ Wr ab (ab + 2) w w' := by
  obtain ⟨hX, hP⟩ := h
  obtain ⟨d0, -⟩ := hX.2 0 _ rfl
  obtain ⟨d1, -⟩ := hX.2 1 _ rfl
  obtain ⟨p0, -⟩ := hP
  unfold rdr at CN
  have CN := dHide CN
  go_enter Tryz.func92, Tryz.ntmps92
  go_wp2_with fail
  refine (dUnhide CN).mono ?_
  rintro e w1 ⟨rfl, hd1, y', hp1⟩
  have R := dHide (refuse_new ab v y' y w1 ⟨hX.drawn hd1 (by omega), hp1⟩)
  have W1 := dHide (Wr.of_drawn hd1 (Nat.le_refl ab) (show ab < ab + 2 by omega))
  clear CN hX d0 d1 p0 hp1 hd1
  go_wp2_with fail
  refine (dUnhide R).mono ?_
  rintro e w2 ⟨rfl, hr, hw⟩
  have F := dHide (And.intro hr ((dUnhide W1).trans hw))
  clear R W1 hr hw
  go_wp2
  go_ret
  exact ⟨rfl, ⟨_, _, (dUnhide F).1⟩, (dUnhide F).2⟩
set_option maxHeartbeats 2000000 in
theorem number_old (ab : Nat) (v : Value) (y q : Int) (w : World) (h : RcW w ab v (wrg q) y)
    (CN : Calls Tryz.prog 123 #[rdr v ab] w fun e w' => e = .returned (.tuple #[.int .i64 0, .bool false]) ∧ Moved ab w w') :
    Calls Tryz.prog 92 #[.pointer (some ⟨ab + 1, 0, none⟩)] w fun e w' => e = .returned (.int .i64 0) ∧ (∃ p y', RcW w' ab v (wrg p) y') ∧ Wr ab (ab + 2) w w' := by
  obtain ⟨hX, hP⟩ := h
  obtain ⟨d0, -⟩ := hX.2 0 _ rfl
  obtain ⟨d1, -⟩ := hX.2 1 _ rfl
  obtain ⟨p0, -⟩ := hP
  unfold rdr at CN
  have CN := dHide CN
  go_enter Tryz.func92, Tryz.ntmps92
  go_wp2_with fail
  refine (dUnhide CN).mono ?_
  rintro e w1 ⟨rfl, hd1, y', hp1⟩
  have H1 : RcW w1 ab v (wrg q) y' := ⟨hX.drawn hd1 (by omega), hp1⟩
  have R := dHide (refuse_old ab v y' y q w1 H1)
  have W1 := dHide (Wr.of_drawn hd1 (Nat.le_refl ab) (show ab < ab + 2 by omega))
  have H1 := dHide H1
  clear CN hX d0 d1 p0 hp1 hd1
  go_wp2_with fail
  refine (dUnhide R).mono ?_
  rintro e w2 ⟨rfl, rfl⟩
  clear R
  go_wp2
  go_ret
  exact ⟨rfl, ⟨_, _, dUnhide H1⟩, dUnhide W1⟩
set_option maxHeartbeats 2000000 in
theorem data_good (ab : Nat) (v wr : Value) (x : ByteArray) (y y' : Int) (w : World) (h : RcW w ab v wr y)
    (CN : Calls Tryz.prog 142 #[rdr v ab] w fun e w' => e = .returned (.tuple #[.string x, .bool true]) ∧ Plc w' ab y' ∧ Drawn ab w w') :
    Calls Tryz.prog 132 #[.pointer (some ⟨ab + 1, 0, none⟩)] w fun e w' => e = .returned (.string x) ∧ RcW w' ab v wr y' ∧ Wr ab (ab + 2) w w' := by
  obtain ⟨hX, hP⟩ := h
  obtain ⟨d0, -⟩ := hX.2 0 _ rfl
  obtain ⟨d1, -⟩ := hX.2 1 _ rfl
  obtain ⟨p0, -⟩ := hP
  unfold rdr at CN
  have CN := dHide CN
  go_enter Tryz.func132, Tryz.ntmps132
  go_wp2_with fail
  refine (dUnhide CN).mono ?_
  rintro e w1 ⟨rfl, hp1, hd1⟩
  have F := dHide (And.intro (⟨hX.drawn hd1 (by omega), hp1⟩ : RcW w1 ab v wr y') (Wr.of_drawn hd1 (Nat.le_refl ab) (show ab < ab + 2 by omega)))
  clear CN hX d0 d1 p0 hp1 hd1
  go_wp2
  go_ret
  exact ⟨rfl, (dUnhide F).1, (dUnhide F).2⟩
set_option maxHeartbeats 2000000 in
theorem data_new (ab : Nat) (v : Value) (y : Int) (w : World) (h : RcW w ab v .nilIface y)
    (CN : Calls Tryz.prog 142 #[rdr v ab] w fun e w' => e = .returned (.tuple #[.string ⟨#[]⟩, .bool false]) ∧ Moved ab w w') :
    Calls Tryz.prog 132 #[.pointer (some ⟨ab + 1, 0, none⟩)] w fun e w' => e = .returned (.string ⟨#[]⟩) ∧ (∃ p y', RcW w' ab v (wrg p) y') ∧ Wr ab (ab + 2) w w' := by
  obtain ⟨hX, hP⟩ := h
  obtain ⟨d0, -⟩ := hX.2 0 _ rfl
  obtain ⟨d1, -⟩ := hX.2 1 _ rfl
  obtain ⟨p0, -⟩ := hP
  unfold rdr at CN
  have CN := dHide CN
  go_enter Tryz.func132, Tryz.ntmps132
  go_wp2_with fail
  refine (dUnhide CN).mono ?_
  rintro e w1 ⟨rfl, hd1, y', hp1⟩
  have R := dHide (refuse_new ab v y' y w1 ⟨hX.drawn hd1 (by omega), hp1⟩)
  have W1 := dHide (Wr.of_drawn hd1 (Nat.le_refl ab) (show ab < ab + 2 by omega))
  clear CN hX d0 d1 p0 hp1 hd1
  go_wp2_with fail
  refine (dUnhide R).mono ?_
  rintro e w2 ⟨rfl, hr, hw⟩
  have F := dHide (And.intro hr ((dUnhide W1).trans hw))
  clear R W1 hr hw
  go_wp2
  go_ret
  exact ⟨rfl, ⟨_, _, (dUnhide F).1⟩, (dUnhide F).2⟩
set_option maxHeartbeats 2000000 in
theorem data_old (ab : Nat) (v : Value) (y q : Int) (w : World) (h : RcW w ab v (wrg q) y)
    (CN : Calls Tryz.prog 142 #[rdr v ab] w fun e w' => e = .returned (.tuple #[.string ⟨#[]⟩, .bool false]) ∧ Moved ab w w') :
    Calls Tryz.prog 132 #[.pointer (some ⟨ab + 1, 0, none⟩)] w fun e w' => e = .returned (.string ⟨#[]⟩) ∧ (∃ p y', RcW w' ab v (wrg p) y') ∧ Wr ab (ab + 2) w w' := by
  obtain ⟨hX, hP⟩ := h
  obtain ⟨d0, -⟩ := hX.2 0 _ rfl
  obtain ⟨d1, -⟩ := hX.2 1 _ rfl
  obtain ⟨p0, -⟩ := hP
  unfold rdr at CN
  have CN := dHide CN
  go_enter Tryz.func132, Tryz.ntmps132
  go_wp2_with fail
  refine (dUnhide CN).mono ?_
  rintro e w1 ⟨rfl, hd1, y', hp1⟩
  have H1 : RcW w1 ab v (wrg q) y' := ⟨hX.drawn hd1 (by omega), hp1⟩
  have R := dHide (refuse_old ab v y' y q w1 H1)
  have W1 := dHide (Wr.of_drawn hd1 (Nat.le_refl ab) (show ab < ab + 2 by omega))
  have H1 := dHide H1
  clear CN hX d0 d1 p0 hp1 hd1
  go_wp2_with fail
  refine (dUnhide R).mono ?_
  rintro e w2 ⟨rfl, rfl⟩
  clear R
  go_wp2
  go_ret
  exact ⟨rfl, ⟨_, _, dUnhide H1⟩, dUnhide W1⟩
theorem number_any (ab : Nat) (v : Value) (bs : List UInt8) (q : Nat) (ok : Bool) (w : World) (hc : Rc w ab v q ok) (hv : Bs w v bs) (hne : bs = [] ∨ blockOf v ≠ ab) :
    Calls Tryz.prog 92 #[.pointer (some ⟨ab + 1, 0, none⟩)] w fun e w' => ∃ x : Int, e = .returned (.int .i64 x) ∧ (0 ≤ x ∧ x ≤ 9223372036854775807) ∧ ((rdN bs q ok).2.2 = true → x = (rdN bs q ok).1) ∧ Rc w' ab v (rdN bs q ok).2.1 (rdN bs q ok).2.2 ∧ Wr ab (ab + 2) w w' := by
  cases ok with
  | true =>
    have h := hc.isYes
    have C := num_nat v bs ab q w hv h.2 hne
    cases hg : getB (bs.drop q) with
    | none =>
      rw [rdN_none true (by rw [getZ_of]; exact hg)]
      refine (number_new ab v q w h (C.mono fun e w' k => ⟨by rw [k.1, hg]; rfl, k.2.2⟩)).mono fun e w' k => ?_
      obtain ⟨k1, ⟨p, y, k2⟩, k3⟩ := k
      exact ⟨0, k1, by omega, fun h => (by cases h), Rc.no k2, k3⟩
    | some r =>
      obtain ⟨x, k⟩ := r
      have hb := getB_bd hg
      rw [rdN_some (by rw [getZ_of]; exact hg)]
      refine (number_good ab v .nilIface (x : Int) q ((q + k : Nat) : Int) w h (C.mono fun e w' k' => ⟨by rw [k'.1, hg]; rfl, k'.2.1 x k hg, k'.2.2.1⟩)).mono fun e w' k' => ?_
      exact ⟨(x : Int), k'.1, by omega, fun _ => rfl, Rc.yes k'.2.1, k'.2.2⟩
  | false =>
    obtain ⟨p, y, h⟩ := hc.isNo
    rw [rdN_off]
    by_cases hy : y < 0
    · refine (number_old ab v y p w h ((num_neg v bs ab y w hv h.2 hy).mono fun e w' k => ⟨k.1, k.2⟩)).mono fun e w' k => ?_
      obtain ⟨k1, ⟨p', y', k2⟩, k3⟩ := k
      exact ⟨0, k1, by omega, fun h => (by cases h), Rc.no k2, k3⟩
    · obtain ⟨n, rfl⟩ := Int.eq_ofNat_of_zero_le (show 0 ≤ y by omega)
      have C := num_nat v bs ab n w hv h.2 hne
      cases hg : getB (bs.drop n) with
      | none =>
        refine (number_old ab v n p w h (C.mono fun e w' k => ⟨by rw [k.1, hg]; rfl, k.2.2⟩)).mono fun e w' k => ?_
        obtain ⟨k1, ⟨p', y', k2⟩, k3⟩ := k
        exact ⟨0, k1, by omega, fun h => (by cases h), Rc.no k2, k3⟩
      | some r =>
        obtain ⟨x, k⟩ := r
        have hb := getB_bd hg
        refine (number_good ab v (wrg p) (x : Int) n ((n + k : Nat) : Int) w h (C.mono fun e w' k' => ⟨by rw [k'.1, hg]; rfl, k'.2.1 x k hg, k'.2.2.1⟩)).mono fun e w' k' => ?_
        exact ⟨(x : Int), k'.1, by omega, fun h => (by cases h), Rc.no k'.2.1, k'.2.2⟩
theorem gtextZ_at (bs : List UInt8) (q : Nat) : gtextZ bs (q : Int) = gtextB bs q ∨ (bs.length ≤ q ∧ gtextZ bs (q : Int) = none) := by
  by_cases h : q < bs.length
  · refine .inl ?_
    unfold gtextZ
    rw [if_neg (by omega), Int.toNat_natCast]
  · refine .inr ⟨by omega, ?_⟩
    unfold gtextZ
    rw [if_pos (by omega)]
theorem gtextB_out (bs : List UInt8) (q : Nat) (h : bs.length ≤ q) : gtextB bs q = none := by
  unfold gtextB
  rw [getB_nil bs q h]
theorem gtextZ_B (bs : List UInt8) (q : Nat) : gtextZ bs (q : Int) = gtextB bs q := by
  rcases gtextZ_at bs q with h | ⟨h, h2⟩
  · exact h
  · rw [h2, gtextB_out bs q h]
theorem data_any (ab : Nat) (v : Value) (bs : List UInt8) (q : Nat) (ok : Bool) (w : World) (hc : Rc w ab v q ok) (hv : Bs w v bs) (hl : bs.length ≤ 1099511627776) (hne : bs = [] ∨ blockOf v ≠ ab) :
    Calls Tryz.prog 132 #[.pointer (some ⟨ab + 1, 0, none⟩)] w fun e w' => ∃ x : ByteArray, e = .returned (.string x) ∧ x.size ≤ bs.length ∧ ((rdT bs q ok).2.2 = true → x = ⟨(rdT bs q ok).1.toArray⟩) ∧ Rc w' ab v (rdT bs q ok).2.1 (rdT bs q ok).2.2 ∧ Wr ab (ab + 2) w w' := by
  have hsz : ∀ n t k, gtextB bs n = some (t, k) → (⟨t.toArray⟩ : ByteArray).size ≤ bs.length := fun n t k h => by
    unfold gtextB at h
    split at h
    · cases h
    · split at h
      · simp only [Option.some.injEq, Prod.mk.injEq] at h
        obtain ⟨rfl, -⟩ := h
        show (List.toArray _).size ≤ _
        simp only [List.size_toArray, List.length_take, List.length_drop]
        omega
      · cases h
  cases ok with
  | true =>
    have h := hc.isYes
    have C := text_nat v bs ab q w hv hl h.2 hne
    cases hg : gtextB bs q with
    | none =>
      rw [rdT_none true (by rw [gtextZ_B]; exact hg)]
      refine (data_new ab v q w h (C.mono fun e w' k => ⟨by rw [k.1, hg]; rfl, k.2.2⟩)).mono fun e w' k => ?_
      obtain ⟨k1, ⟨p, y, k2⟩, k3⟩ := k
      exact ⟨⟨#[]⟩, k1, Nat.zero_le _, fun h => (by cases h), Rc.no k2, k3⟩
    | some r =>
      obtain ⟨x, k⟩ := r
      rw [rdT_some (by rw [gtextZ_B]; exact hg)]
      refine (data_good ab v .nilIface ⟨x.toArray⟩ q (k : Int) w h (C.mono fun e w' k' => ⟨by rw [k'.1, hg]; rfl, k'.2.1 x k hg, k'.2.2.1⟩)).mono fun e w' k' => ?_
      exact ⟨⟨x.toArray⟩, k'.1, hsz _ _ _ hg, fun _ => rfl, Rc.yes k'.2.1, k'.2.2⟩
  | false =>
    obtain ⟨p, y, h⟩ := hc.isNo
    rw [rdT_off]
    by_cases hy : y < 0
    · refine (data_old ab v y p w h ((text_neg v bs ab y w hv h.2 hy).mono fun e w' k => ⟨k.1, k.2⟩)).mono fun e w' k => ?_
      obtain ⟨k1, ⟨p', y', k2⟩, k3⟩ := k
      exact ⟨⟨#[]⟩, k1, Nat.zero_le _, fun h => (by cases h), Rc.no k2, k3⟩
    · obtain ⟨n, rfl⟩ := Int.eq_ofNat_of_zero_le (show 0 ≤ y by omega)
      have C := text_nat v bs ab n w hv hl h.2 hne
      cases hg : gtextB bs n with
      | none =>
        refine (data_old ab v n p w h (C.mono fun e w' k => ⟨by rw [k.1, hg]; rfl, k.2.2⟩)).mono fun e w' k => ?_
        obtain ⟨k1, ⟨p', y', k2⟩, k3⟩ := k
        exact ⟨⟨#[]⟩, k1, Nat.zero_le _, fun h => (by cases h), Rc.no k2, k3⟩
      | some r =>
        obtain ⟨x, k⟩ := r
        refine (data_good ab v (wrg p) ⟨x.toArray⟩ n (k : Int) w h (C.mono fun e w' k' => ⟨by rw [k'.1, hg]; rfl, k'.2.1 x k hg, k'.2.2.1⟩)).mono fun e w' k' => ?_
        exact ⟨⟨x.toArray⟩, k'.1, hsz _ _ _ hg, fun h => (by cases h), Rc.no k'.2.1, k'.2.2⟩
end Go.Proofs.YthndkkjgjhgdnaaGreatDoor
namespace Go.Proofs.YthndkkjgjhgdnaaGreatDoor
open Go.ChangeShapes Go.WideShapes Go.ChangeAt Go.RowKit
set_option linter.unusedVariables false
set_option linter.unusedSimpArgs false
set_option maxRecDepth 100000

theorem Rc.wr {W W' : World} {ab q : Nat} {v : Value} {ok : Bool} (h : Rc W ab v q ok) {row : Option Nat} (g : W.grownBy W' row) (h1 : row ≠ some ab) (h2 : row ≠ some (ab + 1)) : Rc W' ab v q ok := by
  have key : ∀ wr y, RcW W ab v wr y → RcW W' ab v wr y := fun wr y h => by
    obtain ⟨hX, hP⟩ := h
    refine ⟨hX.grown g h2, ?_, ?_⟩
    · exact (World.cell?_of_block (a := ⟨ab, 0, none⟩) (g.block ab (dCell_lt hP.1) (fun e => h1 e.symm))).trans hP.1
    · exact (World.frozen?_of_block (a := ⟨ab, 0, none⟩) (g.block ab (dCell_lt hP.1) (fun e => h1 e.symm))).trans hP.2
  cases ok
  · obtain ⟨p, y, h⟩ := h.isNo
    exact Rc.no (key _ _ h)
  · exact Rc.yes (key _ _ h.isYes)
theorem Wr.grown {lo hi : Nat} {w w1 w2 : World} {row : Option Nat} (h : Wr lo hi w w1) (g : w1.grownBy w2 row) (hr : ∀ k, row = some k → w.heap.size ≤ k) : Wr lo hi w w2 :=
  ⟨g.os.trans h.os, g.tape.trans h.tape, g.output.trans h.output, Nat.le_trans h.size g.size, fun k hk hn => (g.block k (Nat.lt_of_lt_of_le hk h.size) (fun e => by have := hr k e.symm; omega)).trans (h.block k hk hn)⟩
theorem own_wr17 {B lo hi n : Nat} {w w' : World} {v : Value} {l : List Value} (h : w.ownsRow B 3 1 v n l) (hd : Wr lo hi w w') (hb : hi ≤ B) : w'.ownsRow B 3 1 v n l := by
  rcases h.2 with h0 | ⟨g, cap, cur, h1, h2, h3, h4⟩
  · exact ⟨h.1, .inl h0⟩
  · exact ⟨h.1, .inr ⟨g, cap, cur, h1, h2, (hd.block g (Array.getElem?_eq_some_iff.1 h3).1 (by omega)).trans h3, h4⟩⟩
theorem Rc.cell2 {W : World} {ab q : Nat} {v : Value} {ok : Bool} (h : Rc W ab v q ok) : ∃ p, W.cell? ⟨ab + 1, 2, none⟩ = some (if ok = true then .nilIface else wrg p) := by
  cases ok
  · obtain ⟨p, y, h⟩ := h.isNo
    exact ⟨p, (h.1.2 2 _ rfl).1⟩
  · exact ⟨0, (h.isYes.1.2 2 _ rfl).1⟩
set_option maxHeartbeats 8000000 in
theorem listOfI_any (ab : Nat) (v : Value) (bs : List UInt8) (q : Nat) (ok : Bool) (w : World) (hc : Rc w ab v q ok) (HV : ∀ W, Wr ab (ab + 2) w W → Bs W v bs) (hl : bs.length ≤ 1048576) (hq : q ≤ bs.length) (hne : bs = [] ∨ blockOf v ≠ ab) :
    Calls Tryz.prog 124 #[.pointer (some ⟨ab + 1, 0, none⟩), .func (.func 92) #[.pointer (some ⟨ab + 1, 0, none⟩)] #[]] w fun e w' => ∃ u xs, e = .returned u ∧ OwnN w' w.heap.size u xs ∧ ((rdL bs q ok).2.2 = true → xs = (rdL bs q ok).1) ∧ Rc w' ab v (rdL bs q ok).2.1 (rdL bs q ok).2.2 ∧ Wr ab (ab + 2) w w' := by
  have hab := hc.lt
  have HV := dHide HV
  have CN := dHide fun q ok W (hd : Wr ab (ab + 2) w W) (hc : Rc W ab v q ok) => number_any ab v bs q ok W hc (dUnhide HV W hd) hne
  have C1 := dHide (dUnhide CN q ok w (Wr.refl _ _ _) hc)
  have HS : Hid ((rdN bs q ok).2.1 ≤ bs.length ∧ (∀ x : Int, ((rdN bs q ok).2.2 = true → x = (rdN bs q ok).1) → (rdN bs q ok).2.2 = true → rdL bs q ok = rdK bs x.toNat (rdN bs q ok).2.1 true) ∧ ((rdN bs q ok).2.2 = false → (rdL bs q ok).2.2 = false)) := by
    refine ⟨rdN_le bs q ok hq, fun x hx h => ?_, fun h => ?_⟩
    · rw [hx h]; unfold rdL; rw [h]
    · unfold rdL; rw [h, rdK_off]
  generalize rdN bs q ok = R at *
  generalize rdL bs q ok = L at *
  obtain ⟨nI, q1, ok1⟩ := R
  obtain ⟨hq1, hL1, hL0⟩ := dUnhide HS
  simp only at hq1 hL1 hL0 C1
  have HL1 := dHide hL1
  have HL0 := dHide hL0
  clear hc HS hq hL1 hL0
  go_enter Tryz.func124, Tryz.ntmps124
  go_wp2_with fail
  refine (dUnhide C1).mono ?_
  rintro e w1 ⟨x, rfl, ⟨hx0, hx1⟩, hx, hc1, hd1⟩
  obtain ⟨n, rfl⟩ := Int.eq_ofNat_of_zero_le hx0
  have E1 : Hid (ok1 = true → L = rdK bs n q1 true) := fun h => dUnhide HL1 (n : Int) hx h
  have E0 := HL0
  have hs1 := hd1.size
  have HC1 := dHide hc1
  have HD1 := dHide hd1
  clear HL1 HL0 hx hc1 hd1 C1
  go_wp2
  go_loopw [5, 6] (fun ov xv wr => ∃ (k : Nat) (xs : List Int) (p : Nat) (okb : Bool), xv = .int .i64 ((n : Int) - (k : Int)) ∧ xs.length = k ∧ k ≤ n ∧ k ≤ bs.length + 1 ∧ (okb = true → k ≤ p) ∧ p ≤ bs.length ∧ Hid (okb = true → L = (xs ++ (rdK bs (n - k) p true).1, (rdK bs (n - k) p true).2)) ∧ Hid (okb = false → L.2.2 = false) ∧ wr.ownsRow w1.heap.size 3 1 ov xs.length (ncells xs) ∧ Hid (Rc wr ab v p okb) ∧ Hid (Wr ab (ab + 2) w wr) ∧ w1.heap.size ≤ wr.heap.size) (fun _ xv _ => (intOf xv).toNat)
  case atStart => exact ⟨0, [], q1, ok1, by simp, rfl, Nat.zero_le _, Nat.zero_le _, fun _ => Nat.zero_le _, hq1, by simpa [Hid] using dUnhide E1, E0, by simpa [ncells] using World.ownsRow_nil w1 w1.heap.size 3 1, HC1, HD1, Nat.le_refl _⟩
  case round =>
    clear HC1 HD1 E1 E0
    obtain ⟨k, xs, p, okb, rfl, hxl, hkn, hkb, hkp, hp, HK, HZ, hown, HC, HD, hsz⟩ := hrel
    obtain ⟨p2, k2⟩ := (dUnhide HC).cell2
    have GO : Hid ((okb = true → k = n) → (∃ u xs, Ending.returned u5 = .returned u ∧ OwnN wr w.heap.size u xs ∧ (L.2.2 = true → xs = L.1) ∧ Rc wr ab v L.2.1 L.2.2 ∧ Wr ab (ab + 2) w wr)) := by
      intro e
      cases okb with
      | true =>
        have e2 : L = (xs, p, true) := by
          have := dUnhide HK rfl
          rw [e rfl, Nat.sub_self, rdK_zero] at this
          simpa using this
        rw [e2]
        exact ⟨_, xs, rfl, (ownN_of_row hown).mono hs1, fun _ => rfl, dUnhide HC, dUnhide HD⟩
      | false =>
        have e2 := dUnhide HZ rfl
        obtain ⟨L1, L2, L3⟩ := L
        simp only at e2
        subst e2
        obtain ⟨pp, yy, hr⟩ := (dUnhide HC).isNo
        exact ⟨_, xs, rfl, (ownN_of_row hown).mono hs1, fun h => (by cases h), Rc.no hr, dUnhide HD⟩
    by_cases hlt : (0 : Int) < (n : Int) - (k : Int)
    · cases okb
      · have G := dHide (dUnhide GO (fun h => (by cases h)))
        simp only [Bool.false_eq_true, if_false] at k2
        unfold wrg at k2
        clear GO HK HZ HC HD CN HV
        go_wp2
        go_ret
        exact dUnhide G
      · simp only [if_true] at k2
        have hkp2 : k ≤ p := hkp rfl
        have C2 := dHide (dUnhide CN p true wr (dUnhide HD) (dUnhide HC))
        have HS : Hid ((0 ≤ (rdN bs p true).1 ∧ (rdN bs p true).1 ≤ 9223372036854775807) ∧ p ≤ (rdN bs p true).2.1 ∧ (rdN bs p true).2.1 ≤ bs.length ∧ ((rdN bs p true).2.2 = true → p + 1 ≤ (rdN bs p true).2.1)) := rdN_step hp
        obtain ⟨j, hj⟩ : ∃ j, n - k = j + 1 := ⟨n - k - 1, by omega⟩
        have hj2 : n - (k + 1) = j := by omega
        have HK2 : Hid (L = (xs ++ [(rdN bs p true).1] ++ (rdK bs j (rdN bs p true).2.1 (rdN bs p true).2.2).1, (rdK bs j (rdN bs p true).2.1 (rdN bs p true).2.2).2)) := by
          have := dUnhide HK rfl
          rw [hj, rdK_succ] at this
          rw [Hid, this]
          simp
        generalize rdN bs p true = R at *
        obtain ⟨y, p', ok'⟩ := R
        obtain ⟨hy, hpp, hpl, hpk⟩ := dUnhide HS
        simp only at hy hpp hpl hpk HK2 C2
        have HK3 : Hid (∀ y' : Int, (ok' = true → y' = y) → (ok' = true → L = (xs ++ [y'] ++ (rdK bs j p' true).1, (rdK bs j p' true).2)) ∧ (ok' = false → L.2.2 = false)) := fun y' h' => by
          refine ⟨fun h => ?_, fun h => ?_⟩
          · rw [h' h, dUnhide HK2, h]
          · rw [dUnhide HK2, h, rdK_off]
        have HO := dHide hown
        clear GO HK HK2 HZ HS CN HV HC hown
        go_wp2_with fail
        refine (dUnhide C2).mono ?_
        rintro e w3 ⟨y', rfl, hyb, hye, hc3, hd3⟩
        have HK4 := dHide (dUnhide HK3 y' hye)
        have ho3 := own_wr17 (dUnhide HO) hd3 (by omega)
        clear C2 HO k2 HK3 hye
        have hlt' := ho3.lt
        have HC3 := dHide hc3
        have HD3 := dHide ((dUnhide HD).trans hd3)
        have hs3 := hd3.size
        have ba3 : ∀ o, Below w3.heap.size w3 (w3.alloc o) := fun o => (Below.refl _ _).alloc (Nat.le_refl _) o
        clear hc3 hd3 HD
        go_wp2_with (at_builtin; refine appN _ rfl _ _ rfl w1.heap.size _ xs rfl (ho3.alloc _) ⟨w3.heap.size, 0, none⟩ 1 1 [y'] rfl rfl (one_int _ _ _) ?c3 ?c4 ?_)
        case c3 => simp; omega
        case c4 => simp; omega
        intro v' w4 hown' hgrow
        have hs4 : w1.heap.size ≤ w4.heap.size := by have := hgrow.size; simp at this; omega
        have HC4 := dHide (Rc.wr (Rc.below (dUnhide HC3) (ba3 (.cells #[.int .i64 y'] 3))) hgrow (fun e => by have := (hlt' _ e).1; omega) (fun e => by have := (hlt' _ e).1; omega))
        have HD4 := dHide (((dUnhide HD3).trans (Wr.of_below (ba3 (.cells #[.int .i64 y'] 3)))).grown hgrow (fun k hk => by have := (hlt' k hk).1; omega))
        have hown4 := own_lenN hown'
        clear ho3 hown' hgrow hlt' HC3 HD3
        go_wp2
        go_roundw
        case rel => exact ⟨k + 1, xs ++ [y'], p', ok', by go_num, by simp [hxl], by omega, by omega, fun h => by have := hpk h; omega, hpl, by rw [hj2]; exact (dUnhide HK4).1, (dUnhide HK4).2, hown4, HC4, HD4, hs4⟩
        case measure => simp [intOf]; omega
    · have G := dHide (dUnhide GO (fun h => by omega))
      clear GO HK HZ HC HD CN HV
      go_wp2
      go_ret
      obtain ⟨u, xs, ga, gb⟩ := dUnhide G
      exact ⟨u, ga, xs, gb⟩
end Go.Proofs.YthndkkjgjhgdnaaGreatDoor
