/- Draws of rows of stores: l11DrawStores, DrawUnion. -/
import Derived.Test.YtejmfohkobhidaaStW
import Derived.Test.YtejmfohkobhidaaFiA
namespace Go.Proofs.Ytejmfohkobhidaa
open Go.ChangeShapes Go.WideShapes Go.ChangeAt Go.RowKit
set_option linter.unusedVariables false
set_option linter.unusedSimpArgs false
set_option maxRecDepth 100000

/-- One drawn store of a row: its lists lie from lo on, and no append to o writes them. -/
def PsO (W : World) (lo : Nat) (o : Value) (p : Ps) : Prop := OwS W lo (psVal p) p.m ∧ (fitS p.m ∧ p.m.kept.length ≤ 300 ∧ p.m.late.length ≤ 30) ∧ (touch o = none ∨ (touch (.slice p.ka p.m.kept.length p.kc) ≠ touch o ∧ touch (.slice p.la p.m.late.length p.lc) ≠ touch o))
/-- What is there while stores are drawn. -/
structure DU (w : World) (bk : Nat) (W : World) (o : Value) (rs : List Ps) : Prop where
  cur : Cur W bk
  drawn : Drawn bk w W
  row : ApS W w.heap.size o rs
  els : ∀ p ∈ rs, PsO W w.heap.size o p
section
variable {w W W' : World} {bk lo : Nat} {o o' : Value} {rs : List Ps} {p : Ps}
theorem PsO.parts (h : OwS W lo (psVal p) p.m) : ApE W lo (.slice p.ka p.m.kept.length p.kc) p.m.kept ∧ ApE W lo (.slice p.la p.m.late.length p.lc) p.m.late ∧ (touch (.slice p.ka p.m.kept.length p.kc) = none ∨ touch (.slice p.ka p.m.kept.length p.kc) ≠ touch (.slice p.la p.m.late.length p.lc)) := by
  obtain ⟨kv, lv, e, h1, h2, h3⟩ := h
  simp [psVal] at e
  obtain ⟨rfl, rfl⟩ := e
  exact ⟨h1, h2, h3⟩
theorem PsO.keep (h : OwS W lo (psVal p) p.m) {row : Option Nat} (g : W.grownBy W' row) (hs : row = none ∨ (touch (.slice p.ka p.m.kept.length p.kc) ≠ row ∧ touch (.slice p.la p.m.late.length p.lc) ≠ row)) : OwS W' lo (psVal p) p.m := by
  obtain ⟨h1, h2, h3⟩ := PsO.parts h
  refine ⟨_, _, rfl, ApR.kept elemE h1 g ?_, ApR.kept elemE h2 g ?_, h3⟩
  · rcases hs with h | h
    · exact .inl h
    · exact .inr h.1
  · rcases hs with h | h
    · exact .inl h
    · exact .inr h.2
theorem DU.move (h : DU w bk W o rs) (hk : bk < w.heap.size) (hc : Cur W' bk) (hd : Drawn bk W W') : DU w bk W' o rs :=
  ⟨hc, h.drawn.trans hd, ApR.kept elemS h.row hd.row (.inr (touch_base elemS h.row hk)), fun p hp => ⟨(h.els p hp).1.drawn hd hk, (h.els p hp).2⟩⟩
theorem DU.below (h : DU w bk W o rs) (hk : bk < w.heap.size) (hb : Below W.heap.size W W') : DU w bk W' o rs := h.move hk (h.cur.below hb) (Drawn.of_below hb)
/-- One more store. -/
theorem DU.push (h : DU w bk W o rs) (hk : bk < w.heap.size) (hp : OwS W w.heap.size (psVal p) p.m) (hfit : fitS p.m ∧ p.m.kept.length ≤ 300 ∧ p.m.late.length ≤ 30) (hs : touch o = none ∨ (touch (.slice p.ka p.m.kept.length p.kc) ≠ touch o ∧ touch (.slice p.la p.m.late.length p.lc) ≠ touch o))
    (P : ApS W' w.heap.size o' (rs ++ [p])) (g : W.grownBy W' (touch o)) (t : touch o' = touch o ∨ ∀ k, touch o' = some k → W.heap.size ≤ k) : DU w bk W' o' (rs ++ [p]) := by
  have tb : ∀ j, touch o = some j → w.heap.size ≤ j := fun j hj => (h.row.touched elemS hj).1
  have one : ∀ q : Ps, PsO W w.heap.size o q → PsO W' w.heap.size o' q := fun q ⟨q1, q2, q3⟩ => by
    refine ⟨PsO.keep q1 g q3, q2, ?_⟩
    obtain ⟨a1, a2, -⟩ := PsO.parts q1
    cases ht : touch o' with
    | none => exact .inl rfl
    | some j =>
      right
      rcases t with t | t
      · rw [t] at ht
        rcases q3 with q3 | q3
        · rw [q3] at ht; cases ht
        · rw [← ht]; exact q3
      · have hj := t j ht
        constructor
        · intro e
          have := (a1.touched elemE e).2
          omega
        · intro e
          have := (a2.touched elemE e).2
          omega
  refine ⟨h.cur.grown g (fun k hk' => by have := tb k hk'; omega), h.drawn.grown g tb, P, fun q hq => ?_⟩
  rcases List.mem_append.1 hq with hq | hq
  · exact one q (h.els q hq)
  · obtain rfl : q = p := by simpa using hq
    exact one q ⟨hp, hfit, hs⟩
/-- What a list of its own block alone is told of. -/
theorem OwS.ofShape {v : Value} {s : St} (h : OwS W lo v s) : ∃ p : Ps, v = psVal p ∧ p.m = s := by
  obtain ⟨ka, kc, la, lc, rfl⟩ := h.shape
  exact ⟨⟨ka, kc, la, lc, s⟩, rfl, rfl⟩
end
/-- Drawn stores. -/
def DrewU (w' : World) (o : Value) (n : Nat) : Prop := ∃ rs : List Ps, rs.length = n ∧ Rw 3 psCl w' o rs ∧ ∀ p ∈ rs, RdStore (psVal p) p.m w' ∧ fitS p.m ∧ p.m.kept.length ≤ 300 ∧ p.m.late.length ≤ 30
/-- Drawn stores, in new memory. -/
def DrewO (lo : Nat) (W : World) (o : Value) (n : Nat) : Prop := ∃ rs : List Ps, rs.length = n ∧ OwnRw 3 psCl W lo o rs ∧ ∀ p ∈ rs, OwS W lo (psVal p) p.m ∧ fitS p.m ∧ p.m.kept.length ≤ 300 ∧ p.m.late.length ≤ 30
theorem DrewO.u {lo n : Nat} {W : World} {o : Value} (h : DrewO lo W o n) : DrewU W o n := by
  obtain ⟨rs, h1, h2, h3⟩ := h
  exact ⟨rs, h1, h2.rw, fun p hp => ⟨(h3 p hp).1.rs, (h3 p hp).2⟩⟩
theorem OwnRw.drawnS {lo bk : Nat} {W W' : World} {v : Value} {rs : List Ps} (h : OwnRw 3 psCl W lo v rs) (hd : Drawn bk W W') (hb : bk < lo) : OwnRw 3 psCl W' lo v rs := by
  obtain ⟨h0, a, cap, rfl, h1, h2⟩ := h
  refine ⟨h0, a, cap, rfl, h1, ?_⟩
  rcases h2 with h2 | ⟨b, off, rfl, hbb, hc⟩
  · exact .inl h2
  · exact .inr ⟨b, off, rfl, hbb, fun i hi j u hu => ⟨hd.cell (hc i hi j u hu).1 (by omega), (hd.frozen (by omega) (dCell_lt (hc i hi j u hu).1)).trans (hc i hi j u hu).2⟩⟩
theorem DrewO.drawn {lo bk n : Nat} {W W' : World} {o : Value} (h : DrewO lo W o n) (hd : Drawn bk W W') (hb : bk < lo) : DrewO lo W' o n := by
  obtain ⟨rs, h1, h2, h3⟩ := h
  exact ⟨rs, h1, h2.drawnS hd hb, fun p hp => ⟨(h3 p hp).1.drawn hd hb, (h3 p hp).2⟩⟩
theorem DrewO.below {lo n : Nat} {W W' : World} {o : Value} (h : DrewO lo W o n) (hb : Below W.heap.size W W') : DrewO lo W' o n := by
  obtain ⟨rs, h1, h2, h3⟩ := h
  exact ⟨rs, h1, h2.below hb, fun p hp => ⟨(h3 p hp).1.below hb, (h3 p hp).2⟩⟩
theorem DU.out {w W : World} {bk : Nat} {o : Value} {rs : List Ps} (h : DU w bk W o rs) : DrewO w.heap.size W o rs.length := ⟨rs, rfl, ApR.own elemS h.row, fun p hp => ⟨(h.els p hp).1, (h.els p hp).2.1⟩⟩
/-- .. one of which is another. -/
theorem DU.put {w W : World} {bk : Nat} {a : Option Addr} {c x : Nat} {rs : List Ps} {p : Ps} (h : DU w bk W (.slice a rs.length c) rs) (hx : x < rs.length) (hp : OwS W w.heap.size (psVal p) p.m) (hfit : fitS p.m ∧ p.m.kept.length ≤ 300 ∧ p.m.late.length ≤ 30)
    (hs : touch (.slice p.ka p.m.kept.length p.kc) ≠ touch (.slice a rs.length c) ∧ touch (.slice p.la p.m.late.length p.lc) ≠ touch (.slice a rs.length c)) :
    ∃ b, a = some ⟨b, 0, none⟩ ∧ w.heap.size ≤ b ∧ (∀ j u, (psCl rs[x])[j]? = some u → W.cell? ⟨b, x * 3 + j, none⟩ = some u ∧ W.frozen? ⟨b, x * 3 + j, none⟩ = false) ∧ DrewO w.heap.size (((W.setCell ⟨b, x * 3, none⟩ (.slice p.ka p.m.kept.length p.kc)).setCell ⟨b, x * 3 + 1, none⟩ (.slice p.la p.m.late.length p.lc)).setCell ⟨b, x * 3 + 2, none⟩ (.int .i64 p.m.lock)) (.slice a rs.length c) rs.length := by
  have hO := ApR.own elemS h.row
  obtain ⟨b, hab, hb, htc⟩ : ∃ b, a = some ⟨b, 0, none⟩ ∧ w.heap.size ≤ b ∧ touch (.slice a rs.length c) = some b := by
    rcases h.row with ⟨h1, -⟩ | hr
    · rw [h1] at hx; simp at hx
    · rcases hr.2 with ⟨-, h0⟩ | ⟨g, cap, cur, e, hb, hg, hnc, -⟩
      · omega
      · simp only [Value.slice.injEq] at e
        obtain ⟨rfl, -, rfl⟩ := e
        have hc : c ≠ 0 := by omega
        exact ⟨g, rfl, hb, by simp [touch, hc]⟩
  subst hab
  obtain ⟨b', off, e, -, R⟩ := hO.rowG (by omega) zeroPs
  cases e
  rw [htc] at hs
  have kp : ∀ q : Ps, OwS W w.heap.size (psVal q) q.m → (touch (.slice q.ka q.m.kept.length q.kc) ≠ some b ∧ touch (.slice q.la q.m.late.length q.lc) ≠ some b) → ∀ (o : Nat) (u : Value), OwS (W.setCell ⟨b, o, none⟩ u) w.heap.size (psVal q) q.m := fun q q1 q2 o u => PsO.keep q1 (grown_set W b o u) (.inr q2)
  have kp3 : ∀ q : Ps, OwS W w.heap.size (psVal q) q.m → (touch (.slice q.ka q.m.kept.length q.kc) ≠ some b ∧ touch (.slice q.la q.m.late.length q.lc) ≠ some b) → OwS (((W.setCell ⟨b, x * 3, none⟩ (.slice p.ka p.m.kept.length p.kc)).setCell ⟨b, x * 3 + 1, none⟩ (.slice p.la p.m.late.length p.lc)).setCell ⟨b, x * 3 + 2, none⟩ (.int .i64 p.m.lock)) w.heap.size (psVal q) q.m := fun q q1 q2 => PsO.keep (PsO.keep (PsO.keep q1 (grown_set W b _ _) (.inr q2)) (grown_set _ b _ _) (.inr q2)) (grown_set _ b _ _) (.inr q2)
  have f0 : rs.getD x zeroPs = rs[x] := getD_ps hx
  refine ⟨b, rfl, hb, fun j u hu => ?_, ?_⟩
  · have q := R x hx j u (by show (psCl (rs.getD x zeroPs))[j]? = _; rw [f0]; exact hu)
    simpa using q
  · have r1 := R.put psCl_len hx 0 (by decide) (.slice p.ka p.m.kept.length p.kc) ⟨p.ka, p.kc, rs[x].la, rs[x].lc, ⟨p.m.kept, rs[x].m.late, rs[x].m.lock⟩⟩ (by rw [f0]; rfl)
    have r2 := r1.put psCl_len hx 1 (by decide) (.slice p.la p.m.late.length p.lc) ⟨p.ka, p.kc, p.la, p.lc, ⟨p.m.kept, p.m.late, rs[x].m.lock⟩⟩ (by rw [putG_same]; rfl)
    have r3 := r2.put psCl_len hx 2 (by decide) (.int .i64 p.m.lock) p (by rw [putG_same]; rfl)
    rw [putG_twice, putG_twice] at r3
    have hl : (rs.set x p).length = rs.length := List.length_set
    have q := r3.own (es := rs.set x p) (base := w.heap.size) (cap := c) hl.symm (fun i hi => by
      by_cases e : i = x
      · subst e
        rw [putG_same, List.getElem_set_self]
      · rw [putG_ne _ _ e, List.getElem_set_ne (by omega)]
        exact getD_ps (by omega)) hb (by have := hO.1; omega) (by
      obtain ⟨-, a', c', e, hc', -⟩ := hO
      cases e
      omega)
    rw [hl] at q
    simp only [Nat.zero_add, Nat.add_zero] at q
    refine ⟨rs.set x p, hl, q, fun s hs' => ?_⟩
    rcases List.mem_or_eq_of_mem_set hs' with hm | rfl
    · have he := h.els s hm
      rw [PsO, htc] at he
      obtain ⟨e1, e2, e3⟩ := he
      rcases e3 with e3 | e3
      · cases e3
      · exact ⟨kp3 s e1 e3, e2⟩
    · exact ⟨kp3 s hp hs, hfit⟩
set_option maxHeartbeats 4000000 in
theorem l11DrawStores_o (bk n : Nat) (hn : n ≤ 16) (w : World) (hc : Cur w bk) :
    Calls Try.prog 49 #[.pointer (some ⟨bk, 0, none⟩), .int .i64 (n : Int)] w fun e w' => (∃ o, e = .returned o ∧ DrewO w.heap.size w' o n) ∧ Cur w' bk ∧ Drawn bk w w' := by
  have ba : ∀ (w : World) o, Below w.heap.size w (w.alloc o) := fun w o => (Below.refl _ _).alloc (Nat.le_refl _) o
  have hk := hc.lt
  have D0 : DU w bk (w.alloc (.cells #[] 26)) (.slice (some ⟨w.heap.size, 0, none⟩) 0 0) [] := ⟨hc.below (ba _ _), Drawn.of_below (ba _ _), .inl ⟨rfl, _, rfl⟩, fun p hp => by cases hp⟩
  clear hc
  go_enter Try.func49, Try.ntmps49
  go_wp2
  generalize w.alloc (.cells #[] 26) = w0 at *
  go_loopw [5, 6] (fun o x wr => ∃ (k : Nat) (rs : List Ps), x = .int .i64 (k : Int) ∧ k ≤ n ∧ rs.length = k ∧ DU w bk wr o rs) (fun _ x _ => n - (intOf x).toNat)
  case atStart => exact ⟨0, [], rfl, Nat.zero_le _, rfl, D0⟩
  case round =>
    obtain ⟨k, rs, rfl, hkn, hrl, D⟩ := hrel
    clear D0
    obtain ⟨oa, oc, rfl⟩ := ApR.slice elemS D.row
    by_cases hlt : (k : Int) < (n : Int)
    · have hrl2 : rs.length ≤ 16 := by omega
      have HRL := dHide hrl
      clear hrl
      have CD := dHide (l6DrawRight_any bk wr D.cur)
      have HTO : Hid (∀ j, touch (.slice oa rs.length oc) = some j → j < wr.heap.size) := fun j hj => (D.row.touched elemS hj).2
      have hsz := D.drawn.size
      have HD := dHide D
      clear D
      go_wp2_with fail
      refine (dUnhide CD).mono ?_
      rintro e w1 ⟨⟨u, rfl, s, O1, hf1, hk1, hl1⟩, hc1, hd1⟩
      obtain ⟨p, rfl, rfl⟩ := O1.ofShape
      have D1 := (dUnhide HD).move hk hc1 hd1
      have hsep : touch (.slice oa rs.length oc) = none ∨ (touch (.slice p.ka p.m.kept.length p.kc) ≠ touch (.slice oa rs.length oc) ∧ touch (.slice p.la p.m.late.length p.lc) ≠ touch (.slice oa rs.length oc)) := by
        obtain ⟨a1, a2, -⟩ := PsO.parts O1
        cases ht : touch (.slice oa rs.length oc) with
        | none => exact .inl rfl
        | some j =>
          have hj := dUnhide HTO j ht
          refine .inr ⟨fun e => ?_, fun e => ?_⟩
          · have := (a1.touched elemE e).1; omega
          · have := (a2.touched elemE e).1; omega
      have O2 := (O1.mono (base' := w.heap.size) hsz).below (ba w1 (.cells #[.slice p.ka p.m.kept.length p.kc, .slice p.la p.m.late.length p.lc, .int .i64 p.m.lock] 26))
      have D2 := D1.below hk (ba w1 (.cells #[.slice p.ka p.m.kept.length p.kc, .slice p.la p.m.late.length p.lc, .int .i64 p.m.lock] 26))
      have RO := rwS_one w1 p 26 1 (by omega)
      have HFIN : Hid (∀ v' w', ApS w' w.heap.size v' (rs ++ [p]) → (w1.alloc (.cells #[.slice p.ka p.m.kept.length p.kc, .slice p.la p.m.late.length p.lc, .int .i64 p.m.lock] 26)).grownBy w' (touch (.slice oa rs.length oc)) → (touch v' = touch (.slice oa rs.length oc) ∨ ∀ k, touch v' = some k → (w1.alloc (.cells #[.slice p.ka p.m.kept.length p.kc, .slice p.la p.m.late.length p.lc, .int .i64 p.m.lock] 26)).heap.size ≤ k) → DU w bk w' v' (rs ++ [p])) := fun v' w' P g t => D2.push hk O2 ⟨hf1, by omega, by omega⟩ hsep P g t
      have HR2 := dHide D2.row
      have HRO := dHide RO
      have hs2 : w.heap.size ≤ (w1.alloc (.cells #[.slice p.ka p.m.kept.length p.kc, .slice p.la p.m.late.length p.lc, .int .i64 p.m.lock] 26)).heap.size := D2.drawn.size
      clear CD HTO HD O1 hc1 hd1 D1 hsep O2 D2 RO hf1 hk1 hl1
      unfold psVal
      obtain ⟨pka, pkc, pla, plc, pm⟩ := p
      simp only at *
      go_wp2_with (at_builtin; refine wp_apR elemS rfl _ _ rfl w.heap.size (.slice oa rs.length oc) rs rfl (dUnhide HR2) _ [⟨pka, pkc, pla, plc, pm⟩] rfl (dUnhide HRO) ?c1 ?c2 ?c3 ?_)
      case c1 => (try simp); omega
      case c2 => (try simp); omega
      case c3 => exact hs2
      intro v4 w4 P4 g4 t4
      have D4 := dHide (dUnhide HFIN v4 w4 P4 g4 (by simpa using t4))
      have hl4 : Hid ((rs ++ [(⟨pka, pkc, pla, plc, pm⟩ : Ps)]).length = k + 1) := by rw [Hid, List.length_append, dUnhide HRL]; rfl
      generalize rs ++ [(⟨pka, pkc, pla, plc, pm⟩ : Ps)] = RS at *
      clear P4 g4 t4 HFIN HR2 HRO hs2
      go_wp2
      go_roundw
      case rel => exact ⟨k + 1, RS, by go_num, by omega, dUnhide hl4, dUnhide D4⟩
      case measure => simp [intOf]; omega
    · obtain rfl : k = n := by omega
      subst hrl
      have HOUT := dHide D.out
      have HCU := dHide D.cur
      have HDR := dHide D.drawn
      by_cases h0 : 0 < rs.length
      · have h0' : (0 : Int) < (rs.length : Int) := by omega
        have CO := dHide (l1Once_any bk 20 (by omega) (by omega) wr D.cur)
        have HD := dHide D
        clear D HOUT HDR HCU
        go_wp2_with fail
        refine (dUnhide CO).mono ?_
        rintro e w1 ⟨⟨b1, rfl⟩, hc1, hd1⟩
        have D1 := (dUnhide HD).move hk hc1 hd1
        clear CO HD hc1 hd1
        cases b1
        · have HOUT := dHide D1.out
          have HCU := dHide D1.cur
          have HDR := dHide D1.drawn
          clear D1
          go_wp2
          go_ret
          exact ⟨⟨_, rfl, dUnhide HOUT⟩, dUnhide HCU, dUnhide HDR⟩
        · have CB := dHide (l1Below_any bk rs.length h0 (by omega) w1 D1.cur)
          have HD1 := dHide D1
          clear D1
          go_wp2_with fail
          refine (dUnhide CB).mono ?_
          rintro e w2 ⟨⟨x, hx, rfl⟩, hc2, hd2⟩
          have D2 := (dUnhide HD1).move hk hc2 hd2
          have CD := dHide (l6Draw_any bk w2 D2.cur)
          have HTO : Hid (∀ j, touch (.slice oa rs.length oc) = some j → j < w2.heap.size) := fun j hj => (D2.row.touched elemS hj).2
          have hsz := D2.drawn.size
          have HD2 := dHide D2
          clear CB HD1 hc2 hd2 D2
          go_wp2_with fail
          refine (dUnhide CD).mono ?_
          rintro e w3 ⟨⟨u, rfl, s, O3, hf3, hk3, hl3⟩, hc3, hd3⟩
          obtain ⟨p, rfl, rfl⟩ := O3.ofShape
          have D3 := (dUnhide HD2).move hk hc3 hd3
          have O3' := O3.mono (base' := w.heap.size) hsz
          obtain ⟨b, rfl, hb, hcell, hout⟩ := D3.put (x := x) hx O3' ⟨hf3, by omega, by omega⟩ (by
            obtain ⟨a1, a2, -⟩ := PsO.parts O3
            have tk : ∀ {v : Value} {es : List Ent}, ApE w3 w2.heap.size v es → touch v ≠ none → touch v ≠ touch (.slice oa rs.length oc) := fun {v es} a hne e => by
              cases ht : touch v with
              | none => exact hne ht
              | some j =>
                have h1 := (a.touched elemE ht).1
                have h2 := dUnhide HTO j (by rw [← e]; exact ht)
                omega
            have hno : touch (.slice oa rs.length oc) ≠ none := fun e => by
              rcases D3.row with ⟨h1, -⟩ | hr
              · rw [h1] at h0; simp at h0
              · rcases hr.2 with ⟨-, h1⟩ | ⟨g, cap, cur, e', -, -, hnc, -⟩
                · omega
                · simp only [Value.slice.injEq] at e'
                  obtain ⟨rfl, -, rfl⟩ := e'
                  have hc : oc ≠ 0 := by omega
                  simp [touch, hc] at e
            refine ⟨fun e => ?_, fun e => ?_⟩
            · exact tk a1 (by rw [e]; exact hno) e
            · exact tk a2 (by rw [e]; exact hno) e)
          obtain ⟨z0, f0⟩ := hcell 0 _ rfl
          obtain ⟨z1, f1⟩ := hcell 1 _ rfl
          obtain ⟨z2, f2⟩ := hcell 2 _ rfl
          have HOUT := dHide hout
          have HCU := dHide (((D3.cur.setNew (b := b) (by omega) (x * 3) (.slice p.ka p.m.kept.length p.kc)).setNew (b := b) (by omega) (x * 3 + 1) (.slice p.la p.m.late.length p.lc)).setNew (b := b) (by omega) (x * 3 + 2) (.int .i64 p.m.lock))
          have HDR := dHide (((D3.drawn.setNew (b := b) hb (x * 3) (.slice p.ka p.m.kept.length p.kc)).setNew (b := b) hb (x * 3 + 1) (.slice p.la p.m.late.length p.lc)).setNew (b := b) hb (x * 3 + 2) (.int .i64 p.m.lock))
          clear CD HTO HD2 O3 O3' hc3 hd3 D3 hcell hout hf3 hk3 hl3
          unfold psVal
          obtain ⟨pka, pkc, pla, plc, pm⟩ := p
          simp only [Nat.add_zero] at *
          go_wp2
          go_ret
          exact ⟨⟨_, rfl, dUnhide HOUT⟩, dUnhide HCU, dUnhide HDR⟩
      · have h0' : ¬ (0 : Int) < (rs.length : Int) := by omega
        clear D
        go_wp2
        go_ret
        exact ⟨⟨_, rfl, dUnhide HOUT⟩, dUnhide HCU, dUnhide HDR⟩
theorem l11DrawStores_any (bk n : Nat) (hn : n ≤ 16) (w : World) (hc : Cur w bk) :
    Calls Try.prog 49 #[.pointer (some ⟨bk, 0, none⟩), .int .i64 (n : Int)] w fun e w' => (∃ o, e = .returned o ∧ DrewU w' o n) ∧ Drawn bk w w' :=
  (l11DrawStores_o bk n hn w hc).mono fun e w' ⟨⟨o, h1, h2⟩, _, h4⟩ => ⟨⟨o, h1, h2.u⟩, h4⟩
end Go.Proofs.Ytejmfohkobhidaa
