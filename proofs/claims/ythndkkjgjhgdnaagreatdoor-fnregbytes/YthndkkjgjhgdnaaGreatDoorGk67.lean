/- Several texts in one: RgD, ImGa. -/
import Derived.Test.YthndkkjgjhgdnaaGreatDoorGk70
import Derived.Deep.DeepCutAuto
import Derived.Test.YthndkkjgjhgdnaaGreatDoorGk60
import Derived.Lib.SliceRun
namespace Go.Proofs.YthndkkjgjhgdnaaGreatDoor
open Go.ChangeShapes Go.WideShapes Go.ChangeAt Go.RowKit
set_option linter.unusedVariables false
set_option linter.unusedSimpArgs false
set_option maxRecDepth 100000

/-- Eras that may be appended to, in memory from base on, each list apart. -/
def NAp (w : World) (base : Nat) (v : Value) (ms : List Er) : Prop :=
  ∃ rs : List (Nst Er), rs.map Nst.m = ms ∧ ApR 57 3 erCl w base v rs ∧ (∀ p ∈ rs, OwnN w base (Sv Er.nodes p) p.m.nodes) ∧
    (∀ i j (hi : i < rs.length) (hj : j < rs.length), i ≠ j → rs[i].m.nodes = [] ∨ rs[j].m.nodes = [] ∨ blockOf (Sv Er.nodes rs[i]) ≠ blockOf (Sv Er.nodes rs[j])) ∧ ∀ i (hi : i < rs.length), rs[i].m.nodes = [] ∨ touch v ≠ some (blockOf (Sv Er.nodes rs[i]))
theorem NAp.nil (w : World) (base : Nat) (a : Option Addr) : NAp w base (.slice a 0 0) [] := ⟨[], rfl, .inl ⟨rfl, a, rfl⟩, (fun p h => by cases h), (fun i j hi => by simp at hi), fun i hi => by simp at hi⟩
theorem NAp.below {w w' : World} {base : Nat} {v : Value} {ms : List Er} (h : NAp w base v ms) (hb : Below w.heap.size w w') : NAp w' base v ms := by
  obtain ⟨rs, h1, h2, h3, h4, h5⟩ := h
  exact ⟨rs, h1, h2.below hb, fun p hp => (h3 p hp).below hb, h4, h5⟩
theorem NAp.mono {w : World} {base base' : Nat} {v : Value} {ms : List Er} (h : NAp w base v ms) (hb : base' ≤ base) : NAp w base' v ms := by
  obtain ⟨rs, h1, h2, h3, h4, h5⟩ := h
  exact ⟨rs, h1, h2.mono hb, fun p hp => (h3 p hp).mono hb, h4, h5⟩
theorem NAp.far {w : World} {base b o : Nat} {v : Value} {ms : List Er} (h : NAp w base v ms) (hb : b < base) (u : Value) : NAp (w.setCell ⟨b, o, none⟩ u) base v ms := by
  obtain ⟨rs, h1, h2, h3, h4, h5⟩ := h
  exact ⟨rs, h1, ApR.far elemR h2 hb u, fun p hp => (h3 p hp).far hb u, h4, h5⟩
theorem NAp.slice {w : World} {base : Nat} {v : Value} {ms : List Er} (h : NAp w base v ms) : ∃ a c, v = .slice a ms.length c := by
  obtain ⟨rs, h1, h2, -⟩ := h
  obtain ⟨a, c, e⟩ := ApR.slice elemR h2
  exact ⟨a, c, by rw [e, ← h1, List.length_map]⟩
theorem NAp.touched {w : World} {base : Nat} {v : Value} {ms : List Er} (h : NAp w base v ms) {k : Nat} (hk : touch v = some k) : base ≤ k ∧ k < w.heap.size := by
  obtain ⟨rs, h1, h2, -⟩ := h
  exact h2.touched elemR hk
/-- What an append leaves. -/
theorem NAp.pushX {wr w4 w5 : World} {base : Nat} {v v' : Value} {ms : List Er} {p : Nst Er} {rs : List (Nst Er)} (h1 : rs.map Nst.m = ms) (h2 : ApR 57 3 erCl wr base v rs) (h3 : ∀ p ∈ rs, OwnN wr base (Sv Er.nodes p) p.m.nodes)
    (h4 : ∀ i j (hi : i < rs.length) (hj : j < rs.length), i ≠ j → rs[i].m.nodes = [] ∨ rs[j].m.nodes = [] ∨ blockOf (Sv Er.nodes rs[i]) ≠ blockOf (Sv Er.nodes rs[j])) (h5 : ∀ i (hi : i < rs.length), rs[i].m.nodes = [] ∨ touch v ≠ some (blockOf (Sv Er.nodes rs[i])))
    (hw : ∀ p ∈ rs, OwnN w4 base (Sv Er.nodes p) p.m.nodes) (hsz : wr.heap.size ≤ w4.heap.size) (hbw : base ≤ wr.heap.size) (ho : OwnN w4 wr.heap.size (Sv Er.nodes p) p.m.nodes)
    (hP : ApR 57 3 erCl w5 base v' (rs ++ [p])) (hg : w4.grownBy w5 (touch v)) (ht : touch v' = touch v ∨ ∀ k, touch v' = some k → w4.heap.size ≤ k) :
    (rs ++ [p]).map Nst.m = ms ++ [p.m] ∧ ApR 57 3 erCl w5 base v' (rs ++ [p]) ∧ (∀ q ∈ rs ++ [p], OwnN w5 base (Sv Er.nodes q) q.m.nodes) ∧
      (∀ i j (hi : i < (rs ++ [p]).length) (hj : j < (rs ++ [p]).length), i ≠ j → (rs ++ [p])[i].m.nodes = [] ∨ (rs ++ [p])[j].m.nodes = [] ∨ blockOf (Sv Er.nodes (rs ++ [p])[i]) ≠ blockOf (Sv Er.nodes (rs ++ [p])[j])) ∧ ∀ i (hi : i < (rs ++ [p]).length), (rs ++ [p])[i].m.nodes = [] ∨ touch v' ≠ some (blockOf (Sv Er.nodes (rs ++ [p])[i])) := by
  have tv : ∀ k, touch v = some k → k < wr.heap.size := fun k hk => (h2.touched elemR hk).2
  have new : p.m.nodes = [] ∨ touch v ≠ some (blockOf (Sv Er.nodes p)) := by
    rcases ho.ge with h | h
    · exact .inl h
    · right
      intro e
      have := tv _ e
      omega
  have old : ∀ i (hi : i < rs.length), rs[i].m.nodes = [] ∨ blockOf (Sv Er.nodes rs[i]) < wr.heap.size := fun i hi => (h3 _ (List.getElem_mem hi)).bs.lt
  refine ⟨by rw [List.map_append, h1]; rfl, hP, fun q hq => ?_, fun i j hi hj hij => ?_, fun i hi => ?_⟩
  · rcases List.mem_append.1 hq with hq | hq
    · obtain ⟨i, hi, rfl⟩ := List.mem_iff_getElem.1 hq
      exact (hw _ hq).grown hg (h5 i hi)
    · obtain rfl : q = p := by simpa using hq
      exact (ho.mono hbw).grown hg new
  · have hl : (rs ++ [p]).length = rs.length + 1 := by simp
    by_cases e1 : i < rs.length
    · by_cases e2 : j < rs.length
      · simp only [List.getElem_append_left e1, List.getElem_append_left e2]
        exact h4 i j e1 e2 hij
      · have e3 : j = rs.length := by omega
        subst e3
        simp only [List.getElem_append_left e1, List.getElem_concat_length]
        rcases old i e1 with h | h
        · exact .inl h
        · rcases ho.ge with h' | h'
          · exact .inr (.inl h')
          · exact .inr (.inr (by omega))
    · have e3 : i = rs.length := by omega
      subst e3
      have e2 : j < rs.length := by omega
      simp only [List.getElem_append_left e2, List.getElem_concat_length]
      rcases old j e2 with h | h
      · exact .inr (.inl h)
      · rcases ho.ge with h' | h'
        · exact .inl h'
        · exact .inr (.inr (by omega))
  · have hl : (rs ++ [p]).length = rs.length + 1 := by simp
    by_cases e1 : i < rs.length
    · simp only [List.getElem_append_left e1]
      rcases ht with ht | ht
      · rw [ht]; exact h5 i e1
      · rcases old i e1 with h | h
        · exact .inl h
        · right
          intro e
          have := ht _ e
          omega
    · have e3 : i = rs.length := by omega
      subst e3
      simp only [List.getElem_concat_length]
      rcases ht with ht | ht
      · rw [ht]; exact new
      · rcases ho.bs.lt with h | h
        · exact .inl h
        · right
          intro e
          have := ht _ e
          omega
theorem NAp.push {wr w4 w5 : World} {base : Nat} {v v' : Value} {ms : List Er} {p : Nst Er} {rs : List (Nst Er)} (h1 : rs.map Nst.m = ms) (h2 : ApR 57 3 erCl wr base v rs) (h3 : ∀ p ∈ rs, OwnN wr base (Sv Er.nodes p) p.m.nodes)
    (h4 : ∀ i j (hi : i < rs.length) (hj : j < rs.length), i ≠ j → rs[i].m.nodes = [] ∨ rs[j].m.nodes = [] ∨ blockOf (Sv Er.nodes rs[i]) ≠ blockOf (Sv Er.nodes rs[j])) (h5 : ∀ i (hi : i < rs.length), rs[i].m.nodes = [] ∨ touch v ≠ some (blockOf (Sv Er.nodes rs[i])))
    (hw : ∀ p ∈ rs, OwnN w4 base (Sv Er.nodes p) p.m.nodes) (hsz : wr.heap.size ≤ w4.heap.size) (hbw : base ≤ wr.heap.size) (ho : OwnN w4 wr.heap.size (Sv Er.nodes p) p.m.nodes)
    (hP : ApR 57 3 erCl w5 base v' (rs ++ [p])) (hg : w4.grownBy w5 (touch v)) (ht : touch v' = touch v ∨ ∀ k, touch v' = some k → w4.heap.size ≤ k) : NAp w5 base v' (ms ++ [p.m]) := ⟨rs ++ [p], NAp.pushX h1 h2 h3 h4 h5 hw hsz hbw ho hP hg ht⟩
/-- .. and a block elsewhere is written. -/
theorem NAp.pushO {wr w4 w5 : World} {base : Nat} {v v' : Value} {ms : List Er} {p : Nst Er} {rs : List (Nst Er)} (h1 : rs.map Nst.m = ms) (h2 : ApR 57 3 erCl wr base v rs) (h3 : ∀ p ∈ rs, OwnN wr base (Sv Er.nodes p) p.m.nodes)
    (h4 : ∀ i j (hi : i < rs.length) (hj : j < rs.length), i ≠ j → rs[i].m.nodes = [] ∨ rs[j].m.nodes = [] ∨ blockOf (Sv Er.nodes rs[i]) ≠ blockOf (Sv Er.nodes rs[j])) (h5 : ∀ i (hi : i < rs.length), rs[i].m.nodes = [] ∨ touch v ≠ some (blockOf (Sv Er.nodes rs[i])))
    (hw : ∀ p ∈ rs, OwnN w4 base (Sv Er.nodes p) p.m.nodes) (hsz : wr.heap.size ≤ w4.heap.size) (hbw : base ≤ wr.heap.size) (ho : OwnN w4 wr.heap.size (Sv Er.nodes p) p.m.nodes)
    (hP : ApR 57 3 erCl w5 base v' (rs ++ [p])) (hg : w4.grownBy w5 (touch v)) (ht : touch v' = touch v ∨ ∀ k, touch v' = some k → w4.heap.size ≤ k)
    {b o : Nat} (hb1 : touch v ≠ some b) (hb2 : ∀ q ∈ rs ++ [p], q.m.nodes = [] ∨ blockOf (Sv Er.nodes q) ≠ b) (hb4 : b < w4.heap.size) (u : Value) : NAp (w5.setCell ⟨b, o, none⟩ u) base v' (ms ++ [p.m]) := by
  obtain ⟨x1, x2, x3, x4, x5⟩ := NAp.pushX h1 h2 h3 h4 h5 hw hsz hbw ho hP hg ht
  refine ⟨rs ++ [p], x1, x2.put elemR (fun e => ?_) u, fun q hq => (x3 q hq).grown (grown_set w5 b o u) ?_, x4, x5⟩
  · rcases ht with ht | ht
    · exact hb1 (ht ▸ e)
    · have := ht _ e
      omega
  · rcases hb2 q hq with h | h
    · exact .inl h
    · exact .inr fun e => h (Option.some.inj e).symm
/-- Such a row is owned. -/
theorem NAp.ow {w : World} {base : Nat} {v : Value} {ms : List Er} (h : NAp w base v ms) : OwEraS base w.heap.size v ms w := by
  obtain ⟨rs, h1, h2, h3, h4, h5⟩ := h
  have o := ApR.own elemR h2
  refine ⟨rs, h1, o, o.ltG erCl_len (by decide), fun p hp => ⟨h3 p hp, (h3 p hp).bs.lt⟩, h4, fun i hi => ?_⟩
  rcases h5 i hi with h | h
  · exact .inl h
  · right
    intro e
    apply h
    rcases h2 with ⟨h0, -⟩ | hu
    · subst h0; simp at hi
    · rcases hu.2 with ⟨-, h0⟩ | ⟨g, cap, cur, rfl, -, -, hnc, -⟩
      · omega
      · have hc : cap ≠ 0 := by omega
        rw [e]
        simp [touch, hc, blockOf]
set_option maxHeartbeats 8000000 in
theorem l7Copy_any (v : Value) (m : Rg) (w : World) (hv : RdRegister v m w) (hs : sizRegister m ≤ 1048576) :
    Calls Tryz.prog 102 #[v] w fun e w' => (∃ u, e = .returned (.agg #[u, .int .i64 m.trim]) ∧ NAp w' w.heap.size u m.eras) ∧ Below w.heap.size w w' := by
  obtain ⟨sv, rfl, rs, hm, hr, hn⟩ := hv
  have hle : rs.length ≤ 1048576 := by unfold sizRegister sizEraS at hs; rw [← hm, List.length_map] at hs; omega
  have HL : Hid (∀ k (hk : k < rs.length), rs[k].m.nodes.length ≤ 1048576) := fun k hk => by
    have h1 := sumN_mem (ms := rs.map Nst.m) (k := k) (by simpa using hk)
    rw [List.getElem_map] at h1
    unfold sizRegister sizEraS at hs
    rw [← hm] at hs
    omega
  have HR := dHide fun W (hb : Below w.heap.size w W) => hr.below hb
  have HN := dHide fun W (hb : Below w.heap.size w W) k (hk : k < rs.length) => (hn _ (List.getElem_mem hk)).below hb
  obtain ⟨-, a, cap, rfl, -, -⟩ := hr
  generalize m.trim = tr at *
  rw [← hm]
  have ba : ∀ (w : World) o, Below w.heap.size w (w.alloc o) := fun w o => (Below.refl _ _).alloc (Nat.le_refl _) o
  clear hm hn hs
  have B0 := belowThen (belowThen (ba w (.cells #[.slice a rs.length cap, .int .i64 tr] 29)) (ba _ (.cells #[.slice none 0 0, .int .i64 0] 29))) (ba _ (.cells #[.slice none 0 0, .int .i64 tr] 29))
  have X0 := dHide ((Bx.new w [.slice a rs.length cap, .int .i64 tr] 29).below (belowThen (ba _ (.cells #[.slice none 0 0, .int .i64 0] 29)) (ba _ (.cells #[.slice none 0 0, .int .i64 tr] 29))))
  have Y0 := (BxZ.new (B := w.heap.size) (w.alloc (.cells #[.slice a rs.length cap, .int .i64 tr] 29)) [.slice none 0 0, .int .i64 0] 29 (by simp)).below (ba _ (.cells #[.slice none 0 0, .int .i64 tr] 29))
  have Z0 := BxZ.new (B := w.heap.size) ((w.alloc (.cells #[.slice a rs.length cap, .int .i64 tr] 29)).alloc (.cells #[.slice none 0 0, .int .i64 0] 29)) [.slice none 0 0, .int .i64 tr] 29 (by simp <;> omega)
  have e1 : (w.alloc (.cells #[.slice a rs.length cap, .int .i64 tr] 29)).heap.size = w.heap.size + 1 := by simp
  have e2 : ((w.alloc (.cells #[.slice a rs.length cap, .int .i64 tr] 29)).alloc (.cells #[.slice none 0 0, .int .i64 0] 29)).heap.size = w.heap.size + 1 + 1 := by simp
  rw [e1] at Y0
  rw [e2] at Z0
  replace Y0 := dHide Y0
  replace Z0 := dHide Z0
  clear e1 e2
  have k1 := dUnhide X0 1 _ rfl
  go_enter Tryz.func102, Tryz.ntmps102
  go_wp2
  have hs0 : Hid (w.heap.size + 1 + 1 + 1 = (((w.alloc (.cells #[.slice a rs.length cap, .int .i64 tr] 29)).alloc (.cells #[.slice none 0 0, .int .i64 0] 29)).alloc (.cells #[.slice none 0 0, .int .i64 tr] 29)).heap.size) := by simp [Hid]
  clear k1
  generalize ((w.alloc (.cells #[.slice a rs.length cap, .int .i64 tr] 29)).alloc (.cells #[.slice none 0 0, .int .i64 0] 29)).alloc (.cells #[.slice none 0 0, .int .i64 tr] 29) = w0 at *
  go_loopw [4] (fun x wr => ∃ (k : Nat) (oa : Option Addr) (oc : Nat), x = .int .i64 (k : Int) ∧ k ≤ rs.length ∧ Hid (NAp wr (w.heap.size + 3) (.slice oa k oc) ((rs.map Nst.m).take k)) ∧ Hid (Bx wr w.heap.size [.slice a rs.length cap, .int .i64 tr]) ∧ Hid (BxZ wr w.heap.size (w.heap.size + 1) [.slice none 0 0, .int .i64 0]) ∧ Hid (BxZ wr w.heap.size (w.heap.size + 1 + 1) [.slice oa k oc, .int .i64 tr]) ∧ w.heap.size + 3 ≤ wr.heap.size ∧ Below w.heap.size w wr) (fun x _ => rs.length - (intOf x).toNat)
  case atStart => exact ⟨0, none, 0, rfl, Nat.zero_le _, NAp.nil _ _ _, X0, Y0, Z0, by have := dUnhide hs0; omega, B0⟩
  case round =>
    obtain ⟨k, oa, oc, rfl, hk, hA, hX, hY, hZ, hsz, hb⟩ := hrel
    clear X0 Y0 Z0 B0 hs0
    have x0 := dUnhide hX 0 _ rfl
    by_cases hlt : (k : Int) < (rs.length : Int)
    · have hkl : k < rs.length := by omega
      obtain ⟨b, off, rfl, he⟩ := (dUnhide HR wr hb).era hkl
      obtain ⟨c0, c1, c2⟩ := he k hkl
      have bN := dHide fun W (hB : Below wr.heap.size wr W) => dUnhide HN W (belowThen hb hB) k hkl
      have hln := dUnhide HL k hkl
      have eT : Hid ((rs.map Nst.m).take (k + 1) = (rs.map Nst.m).take k ++ [rs[k].m]) := by rw [Hid, List.take_succ_eq_append_getElem (by simpa using hkl), List.getElem_map]
      unfold Sv at bN
      generalize rs[k] = y at *
      obtain ⟨ya, yc, yn, yb, yl⟩ := y
      simp only at bN hln c0 c1 c2 eT
      have bA := ba wr (.cells #[.slice ya yn.length yc, .bool yb, .int .i64 yl] 57)
      have bB := belowThen bA (ba _ (.cells #[] 3))
      have E1 := dHide ((BxZ.new (B := wr.heap.size) wr [.slice ya yn.length yc, .bool yb, .int .i64 yl] 57 (Nat.le_refl _)).below (ba _ (.cells #[] 3)))
      have q0 := ((dUnhide E1).2 0 _ rfl).1
      have hN1 := dUnhide bN _ bB
      clear he
      obtain ⟨r0, m1, m2, m3, m4, m5⟩ := dUnhide hA
      have hl0 : r0.length = k := by
        have := congrArg List.length m1
        rw [List.length_map, List.length_take, List.length_map] at this
        omega
      have tv : Hid (∀ j, touch (.slice oa k oc) = some j → w.heap.size + 3 ≤ j ∧ j < wr.heap.size) := fun j hj => m2.touched elemR hj
      have nt : Hid (touch (.slice oa k oc) ≠ some wr.heap.size) := fun e => by have := dUnhide tv _ e; omega
      have nt1 : Hid (∀ j, j < w.heap.size + 3 → touch (.slice oa k oc) ≠ some j) := fun j hj e => by have := dUnhide tv _ e; omega
      have M := dHide (And.intro m1 (And.intro m2 (And.intro m3 (And.intro m4 m5))))
      clear m1 m2 m3 m4 m5
      go_wp2_with (first
        | (at_builtin; refine wp_cpN rfl _ _ rfl _ rfl _ yn rfl hN1 (by omega) ?_; intro u w2 O2 b2; obtain ⟨-, ua, uc, rfl, -, -⟩ := O2.bs; have HO2 := dHide O2; have bC := belowThen bB b2; have E2 := dHide ((dUnhide E1).below b2); obtain ⟨f0, g0⟩ := (dUnhide E2).2 0 _ rfl; obtain ⟨f1, g1⟩ := (dUnhide E2).2 1 _ rfl; obtain ⟨f2, g2⟩ := (dUnhide E2).2 2 _ rfl; have Z2 := dHide ((dUnhide hZ).below bC); have z0 := ((dUnhide Z2).2 0 _ rfl).1; have hne1 : w.heap.size + 1 + 1 ≠ wr.heap.size := by omega
           have W2 := bC.size
           have P4 := dHide (((((dUnhide M).2.1.below bC).put elemR (b := wr.heap.size) (o' := 0) (dUnhide nt) (.slice ua yn.length uc)).below (ba _ (.cells #[.slice ua yn.length uc, .bool yb, .int .i64 yl] 57))))
           have RO := rwR_one (w2.setCell ⟨wr.heap.size, 0, none⟩ (.slice ua yn.length uc)) ⟨ua, uc, yn, yb, yl⟩ 57 1 (by omega)
           rw [World.size_setCell] at RO
           replace RO := dHide RO)
        | (at_builtin; refine wp_apR elemR rfl _ _ rfl (w.heap.size + 3) _ r0 rfl (dUnhide P4) _ [⟨ua, uc, yn, yb, yl⟩] rfl (dUnhide RO) (by simp; omega) (by simp; omega) (by simp; omega) ?_; intro v5 w5 P5 g5 t5
           obtain ⟨a5, c5, e5⟩ : ∃ a c, v5 = .slice a (k + 1) c := by
             obtain ⟨a, c, e⟩ := ApR.slice elemR P5
             exact ⟨a, c, by rw [e]; simp [hl0]⟩
           subst e5
           have NN : Hid (NAp w5 (w.heap.size + 3) (.slice a5 (k + 1) c5) ((rs.map Nst.m).take (k + 1))) := by
             rw [Hid, dUnhide eT]
             exact NAp.push (dUnhide M).1 (dUnhide M).2.1 (dUnhide M).2.2.1 (dUnhide M).2.2.2.1 (dUnhide M).2.2.2.2 (fun p hp => (((((dUnhide M).2.2.1 p hp).below bC).grown (grown_set w2 wr.heap.size 0 (.slice ua yn.length uc)) (by
               rcases ((dUnhide M).2.2.1 p hp).bs.lt with h | h
               · exact .inl h
               · exact .inr fun e => by have := Option.some.inj e; omega))).below (ba _ _)) (by simp; omega) hsz (((((dUnhide HO2).far (b := wr.heap.size) (o := 0) (by simp; omega) (.slice ua yn.length uc)).below (ba _ _)).mono (by simp; omega))) P5 g5 t5
           have Z5 := dHide ((((dUnhide Z2).far (b' := wr.heap.size) (o := 0) (by omega) (.slice ua yn.length uc)).below (ba _ _)).grown g5 (dUnhide nt1 _ (by omega)))
           have Y5 := dHide (((((dUnhide hY).below bC).far (b' := wr.heap.size) (o := 0) (by omega) (.slice ua yn.length uc)).below (ba _ _)).grown g5 (dUnhide nt1 _ (by omega)))
           have X5 := dHide (((((dUnhide hX).below bC).farB (b' := wr.heap.size) (o := 0) (by omega) (.slice ua yn.length uc)).below (ba _ _)).grown g5 (dUnhide nt1 _ (by omega)))
           have B5 := dHide (((belowThen ((belowThen hb bC).setCell (p := ⟨wr.heap.size, 0, none⟩) (by simp only; omega) (.slice ua yn.length uc)) (ba _ (.cells #[.slice ua yn.length uc, .bool yb, .int .i64 yl] 57)))).grown g5 (by simp; omega) (fun j hj => by have := dUnhide tv _ hj; omega))
           have S5 : w.heap.size + 3 ≤ w5.heap.size := by
             have := g5.size
             simp at this
             omega
           obtain ⟨y0', p0'⟩ := (dUnhide Z5).2 0 _ rfl))
      go_roundw
      case rel => exact ⟨k + 1, a5, c5, by go_num, by omega, (dUnhide NN).far (by omega) _, (dUnhide X5).farB (by omega) _, (dUnhide Y5).far (by omega) _, (dUnhide Z5).put 0 _, by rw [World.size_setCell]; exact S5, (dUnhide B5).setCell (p := ⟨w.heap.size + 1 + 1, 0, none⟩) (by simp only; omega) _⟩
      case measure => simp [intOf]; omega
    · have ek : k = rs.length := by omega
      subst ek
      have eT : (rs.map Nst.m).take rs.length = rs.map Nst.m := List.take_of_length_le (by simp)
      rw [eT] at hA
      obtain ⟨z0, s0⟩ := (dUnhide hZ).2 0 _ rfl
      obtain ⟨z1, s1⟩ := (dUnhide hZ).2 1 _ rfl
      obtain ⟨y0, p0⟩ := (dUnhide hY).2 0 _ rfl
      obtain ⟨y1, p1⟩ := (dUnhide hY).2 1 _ rfl
      have YY := dHide (((dUnhide hY).put 0 (.slice oa rs.length oc)).put 1 (.int .i64 tr))
      have OO := dHide (((dUnhide hA).far (b := w.heap.size + 1) (o := 0) (by omega) (.slice oa rs.length oc)).far (b := w.heap.size + 1) (o := 1) (by omega) (.int .i64 tr))
      have BB := dHide ((hb.setCell (p := ⟨w.heap.size + 1, 0, none⟩) (by simp only; omega) (.slice oa rs.length oc)).setCell (p := ⟨w.heap.size + 1, 1, none⟩) (by simp only; omega) (.int .i64 tr))
      clear hA HR HN HL eT
      go_wp2_with fail
      generalize (wr.setCell ⟨w.heap.size + 1, 0, none⟩ (.slice oa rs.length oc)).setCell ⟨w.heap.size + 1, 1, none⟩ (.int .i64 tr) = V at *
      have q0 := ((dUnhide YY).2 0 _ rfl).1
      have q1 := ((dUnhide YY).2 1 _ rfl).1
      clear z0 z1 s0 s1 y0 y1 p0 p1 x0
      refine bodyPost_ret (v := .agg #[.slice oa rs.length oc, .int .i64 tr]) (by simp [results, Tryz.results102, go_sem, q0, q1]) rfl ⟨⟨_, rfl, (dUnhide OO).mono (by omega)⟩, dUnhide BB⟩
end Go.Proofs.YthndkkjgjhgdnaaGreatDoor
namespace Go.Proofs.YthndkkjgjhgdnaaGreatDoor
open Go.ChangeShapes Go.WideShapes Go.ChangeAt Go.RowKit
set_option linter.unusedVariables false
set_option linter.unusedSimpArgs false
set_option maxRecDepth 100000

/-- Where the first is for which q holds, or -1. -/
def idxQ {α : Type} (q : α → Bool) : List α → Int
  | [] => -1
  | e :: l => if q e then 0 else (if idxQ q l = -1 then -1 else idxQ q l + 1)
theorem idxQ_ge {α : Type} (q : α → Bool) : ∀ l : List α, -1 ≤ idxQ q l ∧ idxQ q l < l.length
  | [] => by simp [idxQ]
  | e :: l => by
    have := idxQ_ge q l
    unfold idxQ
    split
    · simp <;> omega
    · split <;> simp <;> omega
theorem idxQ_none {α : Type} (q : α → Bool) : ∀ l : List α, (∀ i (h : i < l.length), q l[i] = false) → idxQ q l = -1
  | [], _ => rfl
  | e :: l, h => by
    have h0 : q e = false := h 0 (by simp)
    have h1 := idxQ_none q l fun i hi => h (i + 1) (by simpa using hi)
    unfold idxQ
    rw [h0, h1]
    rfl
theorem idxQ_at {α : Type} (q : α → Bool) : ∀ (l : List α) (k : Nat) (hk : k < l.length), (∀ i (h : i < l.length), i < k → q l[i] = false) → q l[k] = true → idxQ q l = (k : Int)
  | [], k, hk, _, _ => by simp at hk
  | e :: l, 0, hk, _, ho => by
    have h0 : q e = true := ho
    unfold idxQ
    rw [h0]
    rfl
  | e :: l, k + 1, hk, h, ho => by
    have h0 : q e = false := h 0 (by simp) (by omega)
    have h1 := idxQ_at q l k (by simpa using hk) (fun i hi hik => h (i + 1) (by simpa using hi) (by omega)) (by simpa using ho)
    unfold idxQ
    rw [h0, h1, if_neg (by simp), if_neg (by omega)]
    omega
theorem idxQ_neg {α : Type} {q : α → Bool} {l : List α} : idxQ q l = -1 ↔ ∀ e ∈ l, q e = false := by
  induction l with
  | nil => simp [idxQ]
  | cons e l ih =>
    have hg := idxQ_ge q l
    unfold idxQ
    cases hq : q e with
    | true => simp [hq]
    | false =>
      rw [if_neg (by simp)]
      by_cases h : idxQ q l = -1
      · rw [if_pos h]
        simp only [List.mem_cons, true_iff]
        rintro x (rfl | hx)
        · exact hq
        · exact ih.1 h x hx
      · rw [if_neg h]
        constructor
        · intro h'; omega
        · intro h'
          exact absurd (ih.2 fun x hx => h' x (List.mem_cons_of_mem _ hx)) h
set_option maxHeartbeats 2000000 in
/-- slices.IndexFunc: the function's own contract is handed in. -/
theorem indexFunc_any (v : Value) (rs : List (Nst Er)) (F : Nat) (caps : Array Value) (q : Er → Bool) (w : World) (hF : ∀ args w, (callFunc F args).run Tryz.prog w = .ok (.enter F args) w) (hr : Rw 3 erCl w v rs)
    (hq : ∀ W, Below w.heap.size w W → ∀ k (hk : k < rs.length), Calls Tryz.prog F (#[.agg #[.slice rs[k].a rs[k].m.nodes.length rs[k].c, .bool rs[k].m.closed, .int .i64 rs[k].m.last]] ++ caps) W fun e w' => e = .returned (.bool (q rs[k].m)) ∧ Below W.heap.size W w') :
    Calls Tryz.prog 117 #[v, .func (.func F) #[] caps] w fun e w' => e = .returned (.int .i64 (idxQ q (rs.map Nst.m))) ∧ Below w.heap.size w w' := by
  have HV := dHide fun W (hb : Below w.heap.size w W) => hr.below hb
  have HQ := dHide hq
  have hl0 := hr.1
  obtain ⟨-, a, cap, rfl, -, -⟩ := hr
  have FN : Hid ((∀ i (h : i < rs.length), q rs[i].m = false) → idxQ q (rs.map Nst.m) = -1) := fun h => idxQ_none _ _ fun i hi => by rw [List.getElem_map]; exact h i (by simpa using hi)
  have FA : Hid (∀ k (hk : k < rs.length), (∀ i (h : i < rs.length), i < k → q rs[i].m = false) → q rs[k].m = true → idxQ q (rs.map Nst.m) = (k : Int)) := fun k hk h1 h2 => idxQ_at _ _ k (by simpa using hk) (fun i hi hik => by rw [List.getElem_map]; exact h1 i (by simpa using hi) hik) (by rw [List.getElem_map]; exact h2)
  generalize idxQ q (rs.map Nst.m) = M at *
  clear hq
  go_enter Tryz.func117, Tryz.ntmps117
  go_wp2
  go_loopw [8] (fun x wr => ∃ k : Nat, x = .int .i64 (k : Int) ∧ k ≤ rs.length ∧ Hid (∀ i (h : i < rs.length), i < k → q rs[i].m = false) ∧ Below w.heap.size w wr) (fun x _ => rs.length - (intOf x).toNat)
  case atStart => exact ⟨0, rfl, Nat.zero_le _, fun i h h' => by omega, Below.refl _ _⟩
  case round =>
    obtain ⟨k, rfl, hk, hc, hb⟩ := hrel
    by_cases hlt : (k : Int) < (rs.length : Int)
    · have hkl : k < rs.length := by omega
      obtain ⟨b, off, rfl, he⟩ := (dUnhide HV _ hb).era hkl
      obtain ⟨c0, c1, c2⟩ := he k hkl
      have CE := dHide (dUnhide HQ wr hb k hkl)
      cases hcl : q rs[k].m with
      | false =>
        rw [hcl] at CE
        have H2 : Hid (∀ i (h : i < rs.length), i < k + 1 → q rs[i].m = false) := fun i h hi => by
          by_cases e : i = k
          · subst e; exact hcl
          · exact dUnhide hc i h (by omega)
        generalize rs[k] = y at *
        obtain ⟨ya, yc, yn, yb, yl⟩ := y
        simp only at *
        clear hc he
        go_wp2_with fail
        refine (dUnhide CE).mono ?_
        rintro e w1 ⟨rfl, b1⟩
        clear CE c0 c1 c2
        go_wp2
        go_roundw
        case rel => exact ⟨k + 1, by go_num, by omega, H2, belowThen hb b1⟩
        case measure => simp [intOf]; omega
      | true =>
        rw [hcl] at CE
        have e1 := dUnhide FA k hkl (dUnhide hc) hcl
        subst e1
        generalize rs[k] = y at *
        obtain ⟨ya, yc, yn, yb, yl⟩ := y
        simp only at *
        clear hc he FN FA
        go_wp2_with fail
        refine (dUnhide CE).mono ?_
        rintro e w1 ⟨rfl, b1⟩
        clear CE c0 c1 c2
        go_wp2
        go_ret
        exact ⟨rfl, belowThen hb b1⟩
    · have e1 := dUnhide FN fun i h => dUnhide hc i h (by omega)
      subst e1
      clear hc FN FA
      go_wp2
      go_ret
      exact ⟨rfl, hb⟩
theorem firstOpenFn (p : Nst Er) (w : World) : Calls Tryz.prog 133 #[.agg #[.slice p.a p.m.nodes.length p.c, .bool p.m.closed, .int .i64 p.m.last]] w fun e w' => e = .returned (.bool (!p.m.closed)) ∧ Below w.heap.size w w' := by
  obtain ⟨pa, pc, yn, yb, yl⟩ := p
  simp only at *
  go_enter Tryz.func133, Tryz.ntmps133
  go_wp2
  go_ret
  exact ⟨rfl, (Below.refl _ _).alloc (Nat.le_refl _) _⟩
theorem idxQ_first (ms : List Er) : idxQ (fun e => !e.closed) ms + 1 = (firstO ms : Int) := by
  induction ms with
  | nil => rfl
  | cons e l ih =>
    have hg := idxQ_ge (fun e : Er => !e.closed) l
    unfold idxQ firstO
    cases hc : e.closed with
    | false => rfl
    | true =>
      simp only [Bool.not_true, if_true]
      rw [if_neg (by decide)]
      by_cases h0 : firstO l = 0
      · rw [if_pos h0, if_pos (by omega)]; rfl
      · rw [if_neg h0, if_neg (by omega)]; omega
set_option maxHeartbeats 1000000 in
theorem implFirst_any (v : Value) (m : Rg) (w : World) (hv : RdRegister v m w) (hs : m.eras.length ≤ 1048576) :
    Calls Tryz.prog 114 #[v] w fun e w' => e = .returned (.int .i64 (firstO m.eras : Int)) ∧ Below w.heap.size w w' := by
  obtain ⟨sv, rfl, rs, hm, hr, -⟩ := hv
  have ba : ∀ o, Below w.heap.size w (w.alloc o) := fun o => (Below.refl _ _).alloc (Nat.le_refl _) o
  have C1 := dHide fun W (hb : Below w.heap.size w W) => indexFunc_any sv rs 133 #[] (fun e => !e.closed) W Tryz.call133 (hr.below hb) (fun W' _ k hk => firstOpenFn rs[k] W')
  rw [hm] at C1
  have e1 := idxQ_first m.eras
  have h1 := idxQ_ge (fun e : Er => !e.closed) m.eras
  obtain ⟨-, a, cap, rfl, -, -⟩ := hr
  have e2 : Hid ((firstO m.eras : Int) = 1 + idxQ (fun e => !e.closed) m.eras) := by rw [Hid]; omega
  rw [dUnhide e2]
  generalize idxQ (fun e : Er => !e.closed) m.eras = M at *
  generalize m.trim = tr at *
  clear e1 e2 hm
  go_enter Tryz.func114, Tryz.ntmps114
  go_wp2_with fail
  refine (dUnhide C1 _ (ba _)).mono ?_
  rintro e w1 ⟨rfl, b1⟩
  have B1 := belowThen (ba _) b1
  clear b1 ba C1
  go_wp2
  go_ret
  exact ⟨rfl, B1⟩
theorem lastEpoch_any (v : Value) (m : Rg) (w : World) (hv : RdRegister v m w) :
    Calls Tryz.prog 115 #[v] w fun e w' => e = .returned (.int .i64 (m.eras.length : Int)) ∧ Below w.heap.size w w' := by
  obtain ⟨a, cap, rfl, -⟩ := formRegister hv
  clear hv
  go_enter Tryz.func115, Tryz.ntmps115
  go_wp2
  go_ret
  exact ⟨rfl, (Below.refl _ _).alloc (Nat.le_refl _) _⟩
set_option maxHeartbeats 1000000 in
theorem hasEpoch_any (v : Value) (m : Rg) (x : Int) (w : World) (hv : RdRegister v m w) (ok : okInt x) (hs : m.eras.length ≤ 1048576) :
    Calls Tryz.prog 119 #[v, .int .i64 x] w fun e w' => RetB (1 ≤ x ∧ x ≤ (m.eras.length : Int)) e ∧ Below w.heap.size w w' := by
  have ba : ∀ o, Below w.heap.size w (w.alloc o) := fun o => (Below.refl _ _).alloc (Nat.le_refl _) o
  have C1 := dHide fun W (hb : Below w.heap.size w W) => lastEpoch_any v m W (hv.below hb)
  obtain ⟨a, cap, rfl, -⟩ := formRegister hv
  obtain ⟨o1, o2⟩ := ok
  generalize m.trim = tr at *
  clear hv
  by_cases h1 : x ≥ 1
  · go_enter Tryz.func119, Tryz.ntmps119
    go_wp2_with fail
    refine (dUnhide C1 _ (ba _)).mono ?_
    rintro e w1 ⟨rfl, b1⟩
    have B1 := belowThen (ba _) b1
    clear b1 ba C1
    have R : RetB (1 ≤ x ∧ x ≤ (m.eras.length : Int)) (.returned (.bool (decide (x ≤ (m.eras.length : Int))))) := ⟨_, rfl, by rw [decide_eq_true_iff]; exact ⟨fun h => ⟨h1, h⟩, fun h => h.2⟩⟩
    go_wp2
    go_ret
    exact ⟨R, B1⟩
  · have R : RetB (1 ≤ x ∧ x ≤ (m.eras.length : Int)) (.returned (.bool false)) := RetB.no fun h => h1 h.1
    go_enter Tryz.func119, Tryz.ntmps119
    go_wp2
    go_ret
    exact ⟨R, ba _⟩
end Go.Proofs.YthndkkjgjhgdnaaGreatDoor
