/- Records as bytes: impl's reader of a record, and the numbers and texts that it reads. -/
import Derived.Test.YtioocibgfhgkhaaDoorPkE
import Derived.Test.YtioocibgfhgkhaaDoorGaA
import Derived.Test.YtioocibgfhgkhaaDoorRdrC
import Derived.Stop.IfaceNil
namespace Go.Proofs.YtioocibgfhgkhaaDoor
open Go.ChangeShapes Go.WideShapes Go.ChangeAt Go.RowKit
set_option linter.unusedVariables false
set_option linter.unusedSimpArgs false
set_option maxRecDepth 100000

/-- What is wrong: from which byte on. -/
def wrg (p : Int) : Value := .iface 76 (.agg #[.int .i64 p])
/-- The reader in its block ab + 1, its place in the block ab: what it holds of what is wrong, and where it is. -/
def RcW (W : World) (ab : Nat) (v wr : Value) (y : Int) : Prop := BxZ W ab (ab + 1) [v, .pointer (some ⟨ab, 0, none⟩), wr] ∧ Plc W ab y
/-- .. all was right up to q, or something was wrong. -/
def Rc (W : World) (ab : Nat) (v : Value) (q : Nat) (ok : Bool) : Prop := if ok = true then RcW W ab v .nilIface (q : Int) else ∃ p y, RcW W ab v (wrg p) y
theorem Rc.yes {W : World} {ab : Nat} {v : Value} {q : Nat} (h : RcW W ab v .nilIface (q : Int)) : Rc W ab v q true := by unfold Rc; rw [if_pos rfl]; exact h
theorem Rc.no {W : World} {ab q : Nat} {v : Value} {p y : Int} (h : RcW W ab v (wrg p) y) : Rc W ab v q false := by unfold Rc; rw [if_neg (by simp)]; exact ⟨p, y, h⟩
theorem Rc.isYes {W : World} {ab : Nat} {v : Value} {q : Nat} (h : Rc W ab v q true) : RcW W ab v .nilIface (q : Int) := by unfold Rc at h; rwa [if_pos rfl] at h
theorem Rc.isNo {W : World} {ab q : Nat} {v : Value} (h : Rc W ab v q false) : ∃ p y, RcW W ab v (wrg p) y := by unfold Rc at h; rwa [if_neg (by simp)] at h
theorem RcW.below {W W' : World} {ab : Nat} {v wr : Value} {y : Int} (h : RcW W ab v wr y) (hb : Below W.heap.size W W') : RcW W' ab v wr y := ⟨h.1.below hb, h.2.below hb⟩
theorem Rc.below {W W' : World} {ab q : Nat} {v : Value} {ok : Bool} (h : Rc W ab v q ok) (hb : Below W.heap.size W W') : Rc W' ab v q ok := by
  cases ok
  · obtain ⟨p, y, h⟩ := h.isNo
    exact Rc.no (h.below hb)
  · exact Rc.yes (h.isYes.below hb)
theorem RcW.lt {W : World} {ab : Nat} {v wr : Value} {y : Int} (h : RcW W ab v wr y) : ab + 2 ≤ W.heap.size := by have := h.1.lt; omega
theorem Rc.lt {W : World} {ab q : Nat} {v : Value} {ok : Bool} (h : Rc W ab v q ok) : ab + 2 ≤ W.heap.size := by
  cases ok
  · obtain ⟨p, y, h⟩ := h.isNo; exact h.lt
  · exact h.isYes.lt
theorem Plc.setX {w : World} {pk b o : Nat} {x : Int} {u : Value} (h : Plc w pk x) (hb : pk ≠ b) : Plc (w.setCell ⟨b, o, none⟩ u) pk x := ⟨set_other h.1 (.inl hb), (World.frozen?_setCell _ _ _ _).trans h.2⟩
theorem Wr.setCell {lo hi b o : Nat} {w w' : World} {u : Value} (h : Wr lo hi w w') (h1 : lo ≤ b) (h2 : b < hi) : Wr lo hi w (w'.setCell ⟨b, o, none⟩ u) :=
  h.trans (Wr.of_drawn ((Drawn.refl b w').setCell o u) h1 h2)
set_option maxHeartbeats 2000000 in
theorem refuse_new (ab : Nat) (v : Value) (y p : Int) (w : World) (h : RcW w ab v .nilIface y) :
    Calls Tryd.prog 58 #[.pointer (some ⟨ab + 1, 0, none⟩), .int .i64 p] w fun e w' => e = .returned (.tuple #[]) ∧ RcW w' ab v (wrg p) y ∧ Wr ab (ab + 2) w w' := by
  obtain ⟨hX, hP⟩ := h
  obtain ⟨d2, g2⟩ := hX.2 2 _ rfl
  have F := dHide (And.intro (And.intro (hX.put 2 (wrg p)) (hP.setX (o := 2) (u := wrg p) (b := ab + 1) (by omega))) ((Wr.refl ab (ab + 2) w).setCell (b := ab + 1) (o := 2) (u := wrg p) (by omega) (by omega)))
  clear hX hP
  go_enter Tryd.func58, Tryd.ntmps58
  go_wp2
  go_returns
  exact ⟨rfl, (dUnhide F).1, (dUnhide F).2⟩
set_option maxHeartbeats 2000000 in
theorem refuse_old (ab : Nat) (v : Value) (y p q : Int) (w : World) (h : RcW w ab v (wrg q) y) :
    Calls Tryd.prog 58 #[.pointer (some ⟨ab + 1, 0, none⟩), .int .i64 p] w fun e w' => e = .returned (.tuple #[]) ∧ w' = w := by
  obtain ⟨d2, g2⟩ := h.1.2 2 _ rfl
  unfold wrg at d2
  go_enter Tryd.func58, Tryd.ntmps58
  go_wp2
  go_returns
  exact ⟨rfl, rfl⟩
set_option maxHeartbeats 2000000 in
theorem number_good (ab : Nat) (v wr : Value) (x : Int) (y y' : Int) (w : World) (h : RcW w ab v wr y)
    (CN : Calls Tryd.prog 69 #[rdr v ab] w fun e w' => e = .returned (.tuple #[.int .i64 x, .bool true]) ∧ Plc w' ab y' ∧ Drawn ab w w') :
    Calls Tryd.prog 56 #[.pointer (some ⟨ab + 1, 0, none⟩)] w fun e w' => e = .returned (.int .i64 x) ∧ RcW w' ab v wr y' ∧ Wr ab (ab + 2) w w' := by
  obtain ⟨hX, hP⟩ := h
  obtain ⟨d0, -⟩ := hX.2 0 _ rfl
  obtain ⟨d1, -⟩ := hX.2 1 _ rfl
  obtain ⟨p0, -⟩ := hP
  unfold rdr at CN
  have CN := dHide CN
  go_enter Tryd.func56, Tryd.ntmps56
  go_wp2_with fail
  refine (dUnhide CN).mono ?_
  rintro e w1 ⟨rfl, hp1, hd1⟩
  have F := dHide (And.intro (⟨hX.drawn hd1 (by omega), hp1⟩ : RcW w1 ab v wr y') (Wr.of_drawn hd1 (Nat.le_refl ab) (show ab < ab + 2 by omega)))
  clear CN hX d0 d1 p0 hp1 hd1
  go_wp2
  go_ret
  exact ⟨rfl, (dUnhide F).1, (dUnhide F).2⟩
set_option maxHeartbeats 2000000 in
theorem number_new (ab : Nat) (v : Value) (y : Int) (w : World) (h : RcW w ab v .nilIface y)
    (CN : Calls Tryd.prog 69 #[rdr v ab] w fun e w' => e = .returned (.tuple #[.int .i64 0, .bool false]) ∧ Moved ab w w') :
    Calls Tryd.prog 56 #[.pointer (some ⟨ab + 1, 0, none⟩)] w fun e w' => e = .returned (.int .i64 0) ∧ (∃ p y', RcW w' ab v (wrg p) y') ∧ Wr ab (ab + 2) w w' := by
  obtain ⟨hX, hP⟩ := h
  obtain ⟨d0, -⟩ := hX.2 0 _ rfl
  obtain ⟨d1, -⟩ := hX.2 1 _ rfl
  obtain ⟨p0, -⟩ := hP
  unfold rdr at CN
  have CN := dHide CN
  go_enter Tryd.func56, Tryd.ntmps56
  go_wp2_with fail
  refine (dUnhide CN).mono ?_
  rintro e w1 ⟨rfl, hd1, y', hp1⟩
  have R := dHide (refuse_new ab v y' y w1 ⟨hX.drawn hd1 (by omega), hp1⟩)
  have W1 := dHide (Wr.of_drawn hd1 (Nat.le_refl ab) (show ab < ab + 2 by omega))
  clear CN hX d0 d1 p0 hp1 hd1
  go_wp2_with fail
  refine (dUnhide R).mono ?_
  rintro e w2 ⟨rfl, hr, hw⟩
  have F := dHide (And.intro hr ((dUnhide W1).trans hw))
  clear R W1 hr hw
  go_wp2
  go_ret
  exact ⟨rfl, ⟨_, _, (dUnhide F).1⟩, (dUnhide F).2⟩
set_option maxHeartbeats 2000000 in
theorem number_old (ab : Nat) (v : Value) (y q : Int) (w : World) (h : RcW w ab v (wrg q) y)
    (CN : Calls Tryd.prog 69 #[rdr v ab] w fun e w' => e = .returned (.tuple #[.int .i64 0, .bool false]) ∧ Moved ab w w') :
    Calls Tryd.prog 56 #[.pointer (some ⟨ab + 1, 0, none⟩)] w fun e w' => e = .returned (.int .i64 0) ∧ (∃ p y', RcW w' ab v (wrg p) y') ∧ Wr ab (ab + 2) w w' := by
  obtain ⟨hX, hP⟩ := h
  obtain ⟨d0, -⟩ := hX.2 0 _ rfl
  obtain ⟨d1, -⟩ := hX.2 1 _ rfl
  obtain ⟨p0, -⟩ := hP
  unfold rdr at CN
  have CN := dHide CN
  go_enter Tryd.func56, Tryd.ntmps56
  go_wp2_with fail
  refine (dUnhide CN).mono ?_
  rintro e w1 ⟨rfl, hd1, y', hp1⟩
  have H1 : RcW w1 ab v (wrg q) y' := ⟨hX.drawn hd1 (by omega), hp1⟩
  have R := dHide (refuse_old ab v y' y q w1 H1)
  have W1 := dHide (Wr.of_drawn hd1 (Nat.le_refl ab) (show ab < ab + 2 by omega))
  have H1 := dHide H1
  clear CN hX d0 d1 p0 hp1 hd1
  go_wp2_with fail
  refine (dUnhide R).mono ?_
  rintro e w2 ⟨rfl, rfl⟩
  clear R
  go_wp2
  go_ret
  exact ⟨rfl, ⟨_, _, dUnhide H1⟩, dUnhide W1⟩
set_option maxHeartbeats 2000000 in
theorem data_good (ab : Nat) (v wr : Value) (x : ByteArray) (y y' : Int) (w : World) (h : RcW w ab v wr y)
    (CN : Calls Tryd.prog 77 #[rdr v ab] w fun e w' => e = .returned (.tuple #[.string x, .bool true]) ∧ Plc w' ab y' ∧ Drawn ab w w') :
    Calls Tryd.prog 75 #[.pointer (some ⟨ab + 1, 0, none⟩)] w fun e w' => e = .returned (.string x) ∧ RcW w' ab v wr y' ∧ Wr ab (ab + 2) w w' := by
  obtain ⟨hX, hP⟩ := h
  obtain ⟨d0, -⟩ := hX.2 0 _ rfl
  obtain ⟨d1, -⟩ := hX.2 1 _ rfl
  obtain ⟨p0, -⟩ := hP
  unfold rdr at CN
  have CN := dHide CN
  go_enter Tryd.func75, Tryd.ntmps75
  go_wp2_with fail
  refine (dUnhide CN).mono ?_
  rintro e w1 ⟨rfl, hp1, hd1⟩
  have F := dHide (And.intro (⟨hX.drawn hd1 (by omega), hp1⟩ : RcW w1 ab v wr y') (Wr.of_drawn hd1 (Nat.le_refl ab) (show ab < ab + 2 by omega)))
  clear CN hX d0 d1 p0 hp1 hd1
  go_wp2
  go_ret
  exact ⟨rfl, (dUnhide F).1, (dUnhide F).2⟩
set_option maxHeartbeats 2000000 in
theorem data_new (ab : Nat) (v : Value) (y : Int) (w : World) (h : RcW w ab v .nilIface y)
    (CN : Calls Tryd.prog 77 #[rdr v ab] w fun e w' => e = .returned (.tuple #[.string ⟨#[]⟩, .bool false]) ∧ Moved ab w w') :
    Calls Tryd.prog 75 #[.pointer (some ⟨ab + 1, 0, none⟩)] w fun e w' => e = .returned (.string ⟨#[]⟩) ∧ (∃ p y', RcW w' ab v (wrg p) y') ∧ Wr ab (ab + 2) w w' := by
  obtain ⟨hX, hP⟩ := h
  obtain ⟨d0, -⟩ := hX.2 0 _ rfl
  obtain ⟨d1, -⟩ := hX.2 1 _ rfl
  obtain ⟨p0, -⟩ := hP
  unfold rdr at CN
  have CN := dHide CN
  go_enter Tryd.func75, Tryd.ntmps75
  go_wp2_with fail
  refine (dUnhide CN).mono ?_
  rintro e w1 ⟨rfl, hd1, y', hp1⟩
  have R := dHide (refuse_new ab v y' y w1 ⟨hX.drawn hd1 (by omega), hp1⟩)
  have W1 := dHide (Wr.of_drawn hd1 (Nat.le_refl ab) (show ab < ab + 2 by omega))
  clear CN hX d0 d1 p0 hp1 hd1
  go_wp2_with fail
  refine (dUnhide R).mono ?_
  rintro e w2 ⟨rfl, hr, hw⟩
  have F := dHide (And.intro hr ((dUnhide W1).trans hw))
  clear R W1 hr hw
  go_wp2
  go_ret
  exact ⟨rfl, ⟨_, _, (dUnhide F).1⟩, (dUnhide F).2⟩
set_option maxHeartbeats 2000000 in
theorem data_old (ab : Nat) (v : Value) (y q : Int) (w : World) (h : RcW w ab v (wrg q) y)
    (CN : Calls Tryd.prog 77 #[rdr v ab] w fun e w' => e = .returned (.tuple #[.string ⟨#[]⟩, .bool false]) ∧ Moved ab w w') :
    Calls Tryd.prog 75 #[.pointer (some ⟨ab + 1, 0, none⟩)] w fun e w' => e = .returned (.string ⟨#[]⟩) ∧ (∃ p y', RcW w' ab v (wrg p) y') ∧ Wr ab (ab + 2) w w' := by
  obtain ⟨hX, hP⟩ := h
  obtain ⟨d0, -⟩ := hX.2 0 _ rfl
  obtain ⟨d1, -⟩ := hX.2 1 _ rfl
  obtain ⟨p0, -⟩ := hP
  unfold rdr at CN
  have CN := dHide CN
  go_enter Tryd.func75, Tryd.ntmps75
  go_wp2_with fail
  refine (dUnhide CN).mono ?_
  rintro e w1 ⟨rfl, hd1, y', hp1⟩
  have H1 : RcW w1 ab v (wrg q) y' := ⟨hX.drawn hd1 (by omega), hp1⟩
  have R := dHide (refuse_old ab v y' y q w1 H1)
  have W1 := dHide (Wr.of_drawn hd1 (Nat.le_refl ab) (show ab < ab + 2 by omega))
  have H1 := dHide H1
  clear CN hX d0 d1 p0 hp1 hd1
  go_wp2_with fail
  refine (dUnhide R).mono ?_
  rintro e w2 ⟨rfl, rfl⟩
  clear R
  go_wp2
  go_ret
  exact ⟨rfl, ⟨_, _, dUnhide H1⟩, dUnhide W1⟩
theorem number_any (ab : Nat) (v : Value) (bs : List UInt8) (q : Nat) (ok : Bool) (w : World) (hc : Rc w ab v q ok) (hv : Bs w v bs) (hne : bs = [] ∨ blockOf v ≠ ab) :
    Calls Tryd.prog 56 #[.pointer (some ⟨ab + 1, 0, none⟩)] w fun e w' => ∃ x : Int, e = .returned (.int .i64 x) ∧ (0 ≤ x ∧ x ≤ 9223372036854775807) ∧ ((rdN bs q ok).2.2 = true → x = (rdN bs q ok).1) ∧ Rc w' ab v (rdN bs q ok).2.1 (rdN bs q ok).2.2 ∧ Wr ab (ab + 2) w w' := by
  cases ok with
  | true =>
    have h := hc.isYes
    have C := num_nat v bs ab q w hv h.2 hne
    cases hg : getB (bs.drop q) with
    | none =>
      rw [rdN_none true (by rw [getZ_of]; exact hg)]
      refine (number_new ab v q w h (C.mono fun e w' k => ⟨by rw [k.1, hg]; rfl, k.2.2⟩)).mono fun e w' k => ?_
      obtain ⟨k1, ⟨p, y, k2⟩, k3⟩ := k
      exact ⟨0, k1, by omega, fun h => (by cases h), Rc.no k2, k3⟩
    | some r =>
      obtain ⟨x, k⟩ := r
      have hb := getB_bd hg
      rw [rdN_some (by rw [getZ_of]; exact hg)]
      refine (number_good ab v .nilIface (x : Int) q ((q + k : Nat) : Int) w h (C.mono fun e w' k' => ⟨by rw [k'.1, hg]; rfl, k'.2.1 x k hg, k'.2.2.1⟩)).mono fun e w' k' => ?_
      exact ⟨(x : Int), k'.1, by omega, fun _ => rfl, Rc.yes k'.2.1, k'.2.2⟩
  | false =>
    obtain ⟨p, y, h⟩ := hc.isNo
    rw [rdN_off]
    by_cases hy : y < 0
    · refine (number_old ab v y p w h ((num_neg v bs ab y w hv h.2 hy).mono fun e w' k => ⟨k.1, k.2⟩)).mono fun e w' k => ?_
      obtain ⟨k1, ⟨p', y', k2⟩, k3⟩ := k
      exact ⟨0, k1, by omega, fun h => (by cases h), Rc.no k2, k3⟩
    · obtain ⟨n, rfl⟩ := Int.eq_ofNat_of_zero_le (show 0 ≤ y by omega)
      have C := num_nat v bs ab n w hv h.2 hne
      cases hg : getB (bs.drop n) with
      | none =>
        refine (number_old ab v n p w h (C.mono fun e w' k => ⟨by rw [k.1, hg]; rfl, k.2.2⟩)).mono fun e w' k => ?_
        obtain ⟨k1, ⟨p', y', k2⟩, k3⟩ := k
        exact ⟨0, k1, by omega, fun h => (by cases h), Rc.no k2, k3⟩
      | some r =>
        obtain ⟨x, k⟩ := r
        have hb := getB_bd hg
        refine (number_good ab v (wrg p) (x : Int) n ((n + k : Nat) : Int) w h (C.mono fun e w' k' => ⟨by rw [k'.1, hg]; rfl, k'.2.1 x k hg, k'.2.2.1⟩)).mono fun e w' k' => ?_
        exact ⟨(x : Int), k'.1, by omega, fun h => (by cases h), Rc.no k'.2.1, k'.2.2⟩
theorem gtextZ_at (bs : List UInt8) (q : Nat) : gtextZ bs (q : Int) = gtextB bs q ∨ (bs.length ≤ q ∧ gtextZ bs (q : Int) = none) := by
  by_cases h : q < bs.length
  · refine .inl ?_
    unfold gtextZ
    rw [if_neg (by omega), Int.toNat_natCast]
  · refine .inr ⟨by omega, ?_⟩
    unfold gtextZ
    rw [if_pos (by omega)]
theorem gtextB_out (bs : List UInt8) (q : Nat) (h : bs.length ≤ q) : gtextB bs q = none := by
  unfold gtextB
  rw [getB_nil bs q h]
theorem gtextZ_B (bs : List UInt8) (q : Nat) : gtextZ bs (q : Int) = gtextB bs q := by
  rcases gtextZ_at bs q with h | ⟨h, h2⟩
  · exact h
  · rw [h2, gtextB_out bs q h]
theorem data_any (ab : Nat) (v : Value) (bs : List UInt8) (q : Nat) (ok : Bool) (w : World) (hc : Rc w ab v q ok) (hv : Bs w v bs) (hl : bs.length ≤ 1099511627776) (hne : bs = [] ∨ blockOf v ≠ ab) :
    Calls Tryd.prog 75 #[.pointer (some ⟨ab + 1, 0, none⟩)] w fun e w' => ∃ x : ByteArray, e = .returned (.string x) ∧ x.size ≤ bs.length ∧ ((rdT bs q ok).2.2 = true → x = ⟨(rdT bs q ok).1.toArray⟩) ∧ Rc w' ab v (rdT bs q ok).2.1 (rdT bs q ok).2.2 ∧ Wr ab (ab + 2) w w' := by
  have hsz : ∀ n t k, gtextB bs n = some (t, k) → (⟨t.toArray⟩ : ByteArray).size ≤ bs.length := fun n t k h => by
    unfold gtextB at h
    split at h
    · cases h
    · split at h
      · simp only [Option.some.injEq, Prod.mk.injEq] at h
        obtain ⟨rfl, -⟩ := h
        show (List.toArray _).size ≤ _
        simp only [List.size_toArray, List.length_take, List.length_drop]
        omega
      · cases h
  cases ok with
  | true =>
    have h := hc.isYes
    have C := text_nat v bs ab q w hv hl h.2 hne
    cases hg : gtextB bs q with
    | none =>
      rw [rdT_none true (by rw [gtextZ_B]; exact hg)]
      refine (data_new ab v q w h (C.mono fun e w' k => ⟨by rw [k.1, hg]; rfl, k.2.2⟩)).mono fun e w' k => ?_
      obtain ⟨k1, ⟨p, y, k2⟩, k3⟩ := k
      exact ⟨⟨#[]⟩, k1, Nat.zero_le _, fun h => (by cases h), Rc.no k2, k3⟩
    | some r =>
      obtain ⟨x, k⟩ := r
      rw [rdT_some (by rw [gtextZ_B]; exact hg)]
      refine (data_good ab v .nilIface ⟨x.toArray⟩ q (k : Int) w h (C.mono fun e w' k' => ⟨by rw [k'.1, hg]; rfl, k'.2.1 x k hg, k'.2.2.1⟩)).mono fun e w' k' => ?_
      exact ⟨⟨x.toArray⟩, k'.1, hsz _ _ _ hg, fun _ => rfl, Rc.yes k'.2.1, k'.2.2⟩
  | false =>
    obtain ⟨p, y, h⟩ := hc.isNo
    rw [rdT_off]
    by_cases hy : y < 0
    · refine (data_old ab v y p w h ((text_neg v bs ab y w hv h.2 hy).mono fun e w' k => ⟨k.1, k.2⟩)).mono fun e w' k => ?_
      obtain ⟨k1, ⟨p', y', k2⟩, k3⟩ := k
      exact ⟨⟨#[]⟩, k1, Nat.zero_le _, fun h => (by cases h), Rc.no k2, k3⟩
    · obtain ⟨n, rfl⟩ := Int.eq_ofNat_of_zero_le (show 0 ≤ y by omega)
      have C := text_nat v bs ab n w hv hl h.2 hne
      cases hg : gtextB bs n with
      | none =>
        refine (data_old ab v n p w h (C.mono fun e w' k => ⟨by rw [k.1, hg]; rfl, k.2.2⟩)).mono fun e w' k => ?_
        obtain ⟨k1, ⟨p', y', k2⟩, k3⟩ := k
        exact ⟨⟨#[]⟩, k1, Nat.zero_le _, fun h => (by cases h), Rc.no k2, k3⟩
      | some r =>
        obtain ⟨x, k⟩ := r
        refine (data_good ab v (wrg p) ⟨x.toArray⟩ n (k : Int) w h (C.mono fun e w' k' => ⟨by rw [k'.1, hg]; rfl, k'.2.1 x k hg, k'.2.2.1⟩)).mono fun e w' k' => ?_
        exact ⟨⟨x.toArray⟩, k'.1, hsz _ _ _ hg, fun h => (by cases h), Rc.no k'.2.1, k'.2.2⟩
end Go.Proofs.YtioocibgfhgkhaaDoor
