/- Rows of eras that may be appended to, each with its list in new memory; spec's l7Copy. -/
import Derived.Test.YtjkjmapibcfcdaaGreatGz16
import Derived.Deep.DeepCutAuto
namespace Go.Proofs.YtjkjmapibcfcdaaGreat
open Go.ChangeShapes Go.WideShapes Go.ChangeAt Go.RowKit
set_option linter.unusedVariables false
set_option linter.unusedSimpArgs false
set_option maxRecDepth 100000

def NAp (w : World) (base : Nat) (v : Value) (ms : List Er) : Prop :=
  ∃ rs : List (Nst Er), rs.map Nst.m = ms ∧ ApR 98 3 erCl w base v rs ∧ (∀ p ∈ rs, OwnN w base (Sv Er.nodes p) p.m.nodes) ∧
    (∀ i j (hi : i < rs.length) (hj : j < rs.length), i ≠ j → rs[i].m.nodes = [] ∨ rs[j].m.nodes = [] ∨ bO (Sv Er.nodes rs[i]) ≠ bO (Sv Er.nodes rs[j])) ∧ ∀ i (hi : i < rs.length), rs[i].m.nodes = [] ∨ touch v ≠ some (bO (Sv Er.nodes rs[i]))
theorem NAp.nil (w : World) (base : Nat) (a : Option Addr) : NAp w base (.slice a 0 0) [] := ⟨[], rfl, .inl ⟨rfl, a, rfl⟩, (fun p h => by cases h), (fun i j hi => by simp at hi), fun i hi => by simp at hi⟩
theorem NAp.below {w w' : World} {base : Nat} {v : Value} {ms : List Er} (h : NAp w base v ms) (hb : Below w.heap.size w w') : NAp w' base v ms := by
  obtain ⟨rs, h1, h2, h3, h4, h5⟩ := h
  exact ⟨rs, h1, h2.below hb, fun p hp => (h3 p hp).below hb, h4, h5⟩
theorem NAp.mono {w : World} {base base' : Nat} {v : Value} {ms : List Er} (h : NAp w base v ms) (hb : base' ≤ base) : NAp w base' v ms := by
  obtain ⟨rs, h1, h2, h3, h4, h5⟩ := h
  exact ⟨rs, h1, h2.mono hb, fun p hp => (h3 p hp).mono hb, h4, h5⟩
theorem NAp.far {w : World} {base b o : Nat} {v : Value} {ms : List Er} (h : NAp w base v ms) (hb : b < base) (u : Value) : NAp (w.setCell ⟨b, o, none⟩ u) base v ms := by
  obtain ⟨rs, h1, h2, h3, h4, h5⟩ := h
  exact ⟨rs, h1, ApR.far elemR h2 hb u, fun p hp => (h3 p hp).far hb u, h4, h5⟩
theorem NAp.slice {w : World} {base : Nat} {v : Value} {ms : List Er} (h : NAp w base v ms) : ∃ a c, v = .slice a ms.length c := by
  obtain ⟨rs, h1, h2, -⟩ := h
  obtain ⟨a, c, e⟩ := ApR.slice elemR h2
  exact ⟨a, c, by rw [e, ← h1, List.length_map]⟩
theorem NAp.touched {w : World} {base : Nat} {v : Value} {ms : List Er} (h : NAp w base v ms) {k : Nat} (hk : touch v = some k) : base ≤ k ∧ k < w.heap.size := by
  obtain ⟨rs, h1, h2, -⟩ := h
  exact h2.touched elemR hk
theorem NAp.pushX {wr w4 w5 : World} {base : Nat} {v v' : Value} {ms : List Er} {p : Nst Er} {rs : List (Nst Er)} (h1 : rs.map Nst.m = ms) (h2 : ApR 98 3 erCl wr base v rs) (h3 : ∀ p ∈ rs, OwnN wr base (Sv Er.nodes p) p.m.nodes)
    (h4 : ∀ i j (hi : i < rs.length) (hj : j < rs.length), i ≠ j → rs[i].m.nodes = [] ∨ rs[j].m.nodes = [] ∨ bO (Sv Er.nodes rs[i]) ≠ bO (Sv Er.nodes rs[j])) (h5 : ∀ i (hi : i < rs.length), rs[i].m.nodes = [] ∨ touch v ≠ some (bO (Sv Er.nodes rs[i])))
    (hw : ∀ p ∈ rs, OwnN w4 base (Sv Er.nodes p) p.m.nodes) (hsz : wr.heap.size ≤ w4.heap.size) (hbw : base ≤ wr.heap.size) (ho : OwnN w4 wr.heap.size (Sv Er.nodes p) p.m.nodes)
    (hP : ApR 98 3 erCl w5 base v' (rs ++ [p])) (hg : w4.grownBy w5 (touch v)) (ht : touch v' = touch v ∨ ∀ k, touch v' = some k → w4.heap.size ≤ k) :
    (rs ++ [p]).map Nst.m = ms ++ [p.m] ∧ ApR 98 3 erCl w5 base v' (rs ++ [p]) ∧ (∀ q ∈ rs ++ [p], OwnN w5 base (Sv Er.nodes q) q.m.nodes) ∧
      (∀ i j (hi : i < (rs ++ [p]).length) (hj : j < (rs ++ [p]).length), i ≠ j → (rs ++ [p])[i].m.nodes = [] ∨ (rs ++ [p])[j].m.nodes = [] ∨ bO (Sv Er.nodes (rs ++ [p])[i]) ≠ bO (Sv Er.nodes (rs ++ [p])[j])) ∧ ∀ i (hi : i < (rs ++ [p]).length), (rs ++ [p])[i].m.nodes = [] ∨ touch v' ≠ some (bO (Sv Er.nodes (rs ++ [p])[i])) := by
  have tv : ∀ k, touch v = some k → k < wr.heap.size := fun k hk => (h2.touched elemR hk).2
  have new : p.m.nodes = [] ∨ touch v ≠ some (bO (Sv Er.nodes p)) := by
    rcases ho.ge with h | h
    · exact .inl h
    · right
      intro e
      have := tv _ e
      omega
  have old : ∀ i (hi : i < rs.length), rs[i].m.nodes = [] ∨ bO (Sv Er.nodes rs[i]) < wr.heap.size := fun i hi => (h3 _ (List.getElem_mem hi)).bs.lt
  refine ⟨by rw [List.map_append, h1]; rfl, hP, fun q hq => ?_, fun i j hi hj hij => ?_, fun i hi => ?_⟩
  · rcases List.mem_append.1 hq with hq | hq
    · obtain ⟨i, hi, rfl⟩ := List.mem_iff_getElem.1 hq
      exact (hw _ hq).grown hg (h5 i hi)
    · obtain rfl : q = p := by simpa using hq
      exact (ho.mono hbw).grown hg new
  · have hl : (rs ++ [p]).length = rs.length + 1 := by simp
    by_cases e1 : i < rs.length
    · by_cases e2 : j < rs.length
      · simp only [List.getElem_append_left e1, List.getElem_append_left e2]
        exact h4 i j e1 e2 hij
      · have e3 : j = rs.length := by omega
        subst e3
        simp only [List.getElem_append_left e1, List.getElem_concat_length]
        rcases old i e1 with h | h
        · exact .inl h
        · rcases ho.ge with h' | h'
          · exact .inr (.inl h')
          · exact .inr (.inr (by omega))
    · have e3 : i = rs.length := by omega
      subst e3
      have e2 : j < rs.length := by omega
      simp only [List.getElem_append_left e2, List.getElem_concat_length]
      rcases old j e2 with h | h
      · exact .inr (.inl h)
      · rcases ho.ge with h' | h'
        · exact .inl h'
        · exact .inr (.inr (by omega))
  · have hl : (rs ++ [p]).length = rs.length + 1 := by simp
    by_cases e1 : i < rs.length
    · simp only [List.getElem_append_left e1]
      rcases ht with ht | ht
      · rw [ht]; exact h5 i e1
      · rcases old i e1 with h | h
        · exact .inl h
        · right
          intro e
          have := ht _ e
          omega
    · have e3 : i = rs.length := by omega
      subst e3
      simp only [List.getElem_concat_length]
      rcases ht with ht | ht
      · rw [ht]; exact new
      · rcases ho.bs.lt with h | h
        · exact .inl h
        · right
          intro e
          have := ht _ e
          omega
theorem NAp.push {wr w4 w5 : World} {base : Nat} {v v' : Value} {ms : List Er} {p : Nst Er} {rs : List (Nst Er)} (h1 : rs.map Nst.m = ms) (h2 : ApR 98 3 erCl wr base v rs) (h3 : ∀ p ∈ rs, OwnN wr base (Sv Er.nodes p) p.m.nodes)
    (h4 : ∀ i j (hi : i < rs.length) (hj : j < rs.length), i ≠ j → rs[i].m.nodes = [] ∨ rs[j].m.nodes = [] ∨ bO (Sv Er.nodes rs[i]) ≠ bO (Sv Er.nodes rs[j])) (h5 : ∀ i (hi : i < rs.length), rs[i].m.nodes = [] ∨ touch v ≠ some (bO (Sv Er.nodes rs[i])))
    (hw : ∀ p ∈ rs, OwnN w4 base (Sv Er.nodes p) p.m.nodes) (hsz : wr.heap.size ≤ w4.heap.size) (hbw : base ≤ wr.heap.size) (ho : OwnN w4 wr.heap.size (Sv Er.nodes p) p.m.nodes)
    (hP : ApR 98 3 erCl w5 base v' (rs ++ [p])) (hg : w4.grownBy w5 (touch v)) (ht : touch v' = touch v ∨ ∀ k, touch v' = some k → w4.heap.size ≤ k) : NAp w5 base v' (ms ++ [p.m]) := ⟨rs ++ [p], NAp.pushX h1 h2 h3 h4 h5 hw hsz hbw ho hP hg ht⟩
theorem NAp.pushO {wr w4 w5 : World} {base : Nat} {v v' : Value} {ms : List Er} {p : Nst Er} {rs : List (Nst Er)} (h1 : rs.map Nst.m = ms) (h2 : ApR 98 3 erCl wr base v rs) (h3 : ∀ p ∈ rs, OwnN wr base (Sv Er.nodes p) p.m.nodes)
    (h4 : ∀ i j (hi : i < rs.length) (hj : j < rs.length), i ≠ j → rs[i].m.nodes = [] ∨ rs[j].m.nodes = [] ∨ bO (Sv Er.nodes rs[i]) ≠ bO (Sv Er.nodes rs[j])) (h5 : ∀ i (hi : i < rs.length), rs[i].m.nodes = [] ∨ touch v ≠ some (bO (Sv Er.nodes rs[i])))
    (hw : ∀ p ∈ rs, OwnN w4 base (Sv Er.nodes p) p.m.nodes) (hsz : wr.heap.size ≤ w4.heap.size) (hbw : base ≤ wr.heap.size) (ho : OwnN w4 wr.heap.size (Sv Er.nodes p) p.m.nodes)
    (hP : ApR 98 3 erCl w5 base v' (rs ++ [p])) (hg : w4.grownBy w5 (touch v)) (ht : touch v' = touch v ∨ ∀ k, touch v' = some k → w4.heap.size ≤ k)
    {b o : Nat} (hb1 : touch v ≠ some b) (hb2 : ∀ q ∈ rs ++ [p], q.m.nodes = [] ∨ bO (Sv Er.nodes q) ≠ b) (hb4 : b < w4.heap.size) (u : Value) : NAp (w5.setCell ⟨b, o, none⟩ u) base v' (ms ++ [p.m]) := by
  obtain ⟨x1, x2, x3, x4, x5⟩ := NAp.pushX h1 h2 h3 h4 h5 hw hsz hbw ho hP hg ht
  refine ⟨rs ++ [p], x1, x2.put elemR (fun e => ?_) u, fun q hq => (x3 q hq).grown (grown_set w5 b o u) ?_, x4, x5⟩
  · rcases ht with ht | ht
    · exact hb1 (ht ▸ e)
    · have := ht _ e
      omega
  · rcases hb2 q hq with h | h
    · exact .inl h
    · exact .inr fun e => h (Option.some.inj e).symm
theorem NAp.ow {w : World} {base : Nat} {v : Value} {ms : List Er} (h : NAp w base v ms) : OwEraS base w.heap.size v ms w := by
  obtain ⟨rs, h1, h2, h3, h4, h5⟩ := h
  have o := ApR.own elemR h2
  refine ⟨rs, h1, o, o.ltG erCl_len (by decide), fun p hp => ⟨h3 p hp, (h3 p hp).bs.lt⟩, h4, fun i hi => ?_⟩
  rcases h5 i hi with h | h
  · exact .inl h
  · right
    intro e
    apply h
    rcases h2 with ⟨h0, -⟩ | hu
    · subst h0; simp at hi
    · rcases hu.2 with ⟨-, h0⟩ | ⟨g, cap, cur, rfl, -, -, hnc, -⟩
      · omega
      · have hc : cap ≠ 0 := by omega
        rw [e]
        simp [touch, hc, bO]
set_option maxHeartbeats 8000000 in
theorem l7Copy_any (v : Value) (m : Rg) (w : World) (hv : RdRegister v m w) (hs : sizRegister m ≤ 1048576) :
    Calls Tryz.prog 156 #[v] w fun e w' => (∃ u, e = .returned (.agg #[u, .int .i64 m.trim]) ∧ NAp w' w.heap.size u m.eras) ∧ Below w.heap.size w w' := by
  obtain ⟨sv, rfl, rs, hm, hr, hn⟩ := hv
  have hle : rs.length ≤ 1048576 := by unfold sizRegister sizEraS at hs; rw [← hm, List.length_map] at hs; omega
  have HL : Hid (∀ k (hk : k < rs.length), rs[k].m.nodes.length ≤ 1048576) := fun k hk => by
    have h1 := sumN_mem (ms := rs.map Nst.m) (k := k) (by simpa using hk)
    rw [List.getElem_map] at h1
    unfold sizRegister sizEraS at hs
    rw [← hm] at hs
    omega
  have HR := dH fun W (hb : Below w.heap.size w W) => hr.below hb
  have HN := dH fun W (hb : Below w.heap.size w W) k (hk : k < rs.length) => (hn _ (List.getElem_mem hk)).below hb
  obtain ⟨-, a, cap, rfl, -, -⟩ := hr
  generalize m.trim = tr at *
  rw [← hm]
  have ba : ∀ (w : World) o, Below w.heap.size w (w.alloc o) := fun w o => (Below.refl _ _).alloc (Nat.le_refl _) o
  clear hm hn hs
  have B0 := bT (bT (ba w (.cells #[.slice a rs.length cap, .int .i64 tr] 42)) (ba _ (.cells #[.slice none 0 0, .int .i64 0] 42))) (ba _ (.cells #[.slice none 0 0, .int .i64 tr] 42))
  have X0 := dH ((Bx.new w [.slice a rs.length cap, .int .i64 tr] 42).below (bT (ba _ (.cells #[.slice none 0 0, .int .i64 0] 42)) (ba _ (.cells #[.slice none 0 0, .int .i64 tr] 42))))
  have Y0 := (BxZ.new (B := w.heap.size) (w.alloc (.cells #[.slice a rs.length cap, .int .i64 tr] 42)) [.slice none 0 0, .int .i64 0] 42 (by simp)).below (ba _ (.cells #[.slice none 0 0, .int .i64 tr] 42))
  have Z0 := BxZ.new (B := w.heap.size) ((w.alloc (.cells #[.slice a rs.length cap, .int .i64 tr] 42)).alloc (.cells #[.slice none 0 0, .int .i64 0] 42)) [.slice none 0 0, .int .i64 tr] 42 (by simp <;> omega)
  have e1 : (w.alloc (.cells #[.slice a rs.length cap, .int .i64 tr] 42)).heap.size = w.heap.size + 1 := by simp
  have e2 : ((w.alloc (.cells #[.slice a rs.length cap, .int .i64 tr] 42)).alloc (.cells #[.slice none 0 0, .int .i64 0] 42)).heap.size = w.heap.size + 1 + 1 := by simp
  rw [e1] at Y0
  rw [e2] at Z0
  replace Y0 := dH Y0
  replace Z0 := dH Z0
  clear e1 e2
  have k1 := dU X0 1 _ rfl
  go_enter Tryz.func156, Tryz.ntmps156
  go_wp2
  have hs0 : Hid (w.heap.size + 1 + 1 + 1 = (((w.alloc (.cells #[.slice a rs.length cap, .int .i64 tr] 42)).alloc (.cells #[.slice none 0 0, .int .i64 0] 42)).alloc (.cells #[.slice none 0 0, .int .i64 tr] 42)).heap.size) := by simp [Hid]
  clear k1
  generalize ((w.alloc (.cells #[.slice a rs.length cap, .int .i64 tr] 42)).alloc (.cells #[.slice none 0 0, .int .i64 0] 42)).alloc (.cells #[.slice none 0 0, .int .i64 tr] 42) = w0 at *
  go_loopw [4] (fun x wr => ∃ (k : Nat) (oa : Option Addr) (oc : Nat), x = .int .i64 (k : Int) ∧ k ≤ rs.length ∧ Hid (NAp wr (w.heap.size + 3) (.slice oa k oc) ((rs.map Nst.m).take k)) ∧ Hid (Bx wr w.heap.size [.slice a rs.length cap, .int .i64 tr]) ∧ Hid (BxZ wr w.heap.size (w.heap.size + 1) [.slice none 0 0, .int .i64 0]) ∧ Hid (BxZ wr w.heap.size (w.heap.size + 1 + 1) [.slice oa k oc, .int .i64 tr]) ∧ w.heap.size + 3 ≤ wr.heap.size ∧ Below w.heap.size w wr) (fun x _ => rs.length - (intOf x).toNat)
  case atStart => exact ⟨0, none, 0, rfl, Nat.zero_le _, NAp.nil _ _ _, X0, Y0, Z0, by have := dU hs0; omega, B0⟩
  case round =>
    obtain ⟨k, oa, oc, rfl, hk, hA, hX, hY, hZ, hsz, hb⟩ := hrel
    clear X0 Y0 Z0 B0 hs0
    have x0 := dU hX 0 _ rfl
    by_cases hlt : (k : Int) < (rs.length : Int)
    · have hkl : k < rs.length := by omega
      obtain ⟨b, off, rfl, he⟩ := (dU HR wr hb).era hkl
      obtain ⟨c0, c1, c2⟩ := he k hkl
      have bN := dH fun W (hB : Below wr.heap.size wr W) => dU HN W (bT hb hB) k hkl
      have hln := dU HL k hkl
      have eT : Hid ((rs.map Nst.m).take (k + 1) = (rs.map Nst.m).take k ++ [rs[k].m]) := by rw [Hid, List.take_succ_eq_append_getElem (by simpa using hkl), List.getElem_map]
      unfold Sv at bN
      generalize rs[k] = y at *
      obtain ⟨ya, yc, yn, yb, yl⟩ := y
      simp only at bN hln c0 c1 c2 eT
      have bA := ba wr (.cells #[.slice ya yn.length yc, .bool yb, .int .i64 yl] 98)
      have bB := bT bA (ba _ (.cells #[] 3))
      have E1 := dH ((BxZ.new (B := wr.heap.size) wr [.slice ya yn.length yc, .bool yb, .int .i64 yl] 98 (Nat.le_refl _)).below (ba _ (.cells #[] 3)))
      have q0 := ((dU E1).2 0 _ rfl).1
      have hN1 := dU bN _ bB
      clear he
      obtain ⟨r0, m1, m2, m3, m4, m5⟩ := dU hA
      have hl0 : r0.length = k := by
        have := congrArg List.length m1
        rw [List.length_map, List.length_take, List.length_map] at this
        omega
      have tv : Hid (∀ j, touch (.slice oa k oc) = some j → w.heap.size + 3 ≤ j ∧ j < wr.heap.size) := fun j hj => m2.touched elemR hj
      have nt : Hid (touch (.slice oa k oc) ≠ some wr.heap.size) := fun e => by have := dU tv _ e; omega
      have nt1 : Hid (∀ j, j < w.heap.size + 3 → touch (.slice oa k oc) ≠ some j) := fun j hj e => by have := dU tv _ e; omega
      have M := dH (And.intro m1 (And.intro m2 (And.intro m3 (And.intro m4 m5))))
      clear m1 m2 m3 m4 m5
      go_wp2_with (first
        | (at_builtin; refine wp_cpN rfl _ _ rfl _ rfl _ yn rfl hN1 (by omega) ?_; intro u w2 O2 b2; obtain ⟨-, ua, uc, rfl, -, -⟩ := O2.bs; have HO2 := dH O2; have bC := bT bB b2; have E2 := dH ((dU E1).below b2); obtain ⟨f0, g0⟩ := (dU E2).2 0 _ rfl; obtain ⟨f1, g1⟩ := (dU E2).2 1 _ rfl; obtain ⟨f2, g2⟩ := (dU E2).2 2 _ rfl; have Z2 := dH ((dU hZ).below bC); have z0 := ((dU Z2).2 0 _ rfl).1; have hne1 : w.heap.size + 1 + 1 ≠ wr.heap.size := by omega
           have W2 := bC.size
           have P4 := dH (((((dU M).2.1.below bC).put elemR (b := wr.heap.size) (o' := 0) (dU nt) (.slice ua yn.length uc)).below (ba _ (.cells #[.slice ua yn.length uc, .bool yb, .int .i64 yl] 98))))
           have RO := rwR_one (w2.setCell ⟨wr.heap.size, 0, none⟩ (.slice ua yn.length uc)) ⟨ua, uc, yn, yb, yl⟩ 98 1 (by omega)
           rw [World.size_setCell] at RO
           replace RO := dH RO)
        | (at_builtin; refine wp_apR elemR rfl _ _ rfl (w.heap.size + 3) _ r0 rfl (dU P4) _ [⟨ua, uc, yn, yb, yl⟩] rfl (dU RO) (by simp; omega) (by simp; omega) (by simp; omega) ?_; intro v5 w5 P5 g5 t5
           obtain ⟨a5, c5, e5⟩ : ∃ a c, v5 = .slice a (k + 1) c := by
             obtain ⟨a, c, e⟩ := ApR.slice elemR P5
             exact ⟨a, c, by rw [e]; simp [hl0]⟩
           subst e5
           have NN : Hid (NAp w5 (w.heap.size + 3) (.slice a5 (k + 1) c5) ((rs.map Nst.m).take (k + 1))) := by
             rw [Hid, dU eT]
             exact NAp.push (dU M).1 (dU M).2.1 (dU M).2.2.1 (dU M).2.2.2.1 (dU M).2.2.2.2 (fun p hp => (((((dU M).2.2.1 p hp).below bC).grown (grown_set w2 wr.heap.size 0 (.slice ua yn.length uc)) (by
               rcases ((dU M).2.2.1 p hp).bs.lt with h | h
               · exact .inl h
               · exact .inr fun e => by have := Option.some.inj e; omega))).below (ba _ _)) (by simp; omega) hsz (((((dU HO2).far (b := wr.heap.size) (o := 0) (by simp; omega) (.slice ua yn.length uc)).below (ba _ _)).mono (by simp; omega))) P5 g5 t5
           have Z5 := dH ((((dU Z2).far (b' := wr.heap.size) (o := 0) (by omega) (.slice ua yn.length uc)).below (ba _ _)).grown g5 (dU nt1 _ (by omega)))
           have Y5 := dH (((((dU hY).below bC).far (b' := wr.heap.size) (o := 0) (by omega) (.slice ua yn.length uc)).below (ba _ _)).grown g5 (dU nt1 _ (by omega)))
           have X5 := dH (((((dU hX).below bC).farB (b' := wr.heap.size) (o := 0) (by omega) (.slice ua yn.length uc)).below (ba _ _)).grown g5 (dU nt1 _ (by omega)))
           have B5 := dH (((bT ((bT hb bC).setCell (p := ⟨wr.heap.size, 0, none⟩) (by simp only; omega) (.slice ua yn.length uc)) (ba _ (.cells #[.slice ua yn.length uc, .bool yb, .int .i64 yl] 98)))).grown g5 (by simp; omega) (fun j hj => by have := dU tv _ hj; omega))
           have S5 : w.heap.size + 3 ≤ w5.heap.size := by
             have := g5.size
             simp at this
             omega
           obtain ⟨y0', p0'⟩ := (dU Z5).2 0 _ rfl))
      go_roundw
      case rel => exact ⟨k + 1, a5, c5, by go_num, by omega, (dU NN).far (by omega) _, (dU X5).farB (by omega) _, (dU Y5).far (by omega) _, (dU Z5).put 0 _, by rw [World.size_setCell]; exact S5, (dU B5).setCell (p := ⟨w.heap.size + 1 + 1, 0, none⟩) (by simp only; omega) _⟩
      case measure => simp [intOf]; omega
    · have ek : k = rs.length := by omega
      subst ek
      have eT : (rs.map Nst.m).take rs.length = rs.map Nst.m := List.take_of_length_le (by simp)
      rw [eT] at hA
      obtain ⟨z0, s0⟩ := (dU hZ).2 0 _ rfl
      obtain ⟨z1, s1⟩ := (dU hZ).2 1 _ rfl
      obtain ⟨y0, p0⟩ := (dU hY).2 0 _ rfl
      obtain ⟨y1, p1⟩ := (dU hY).2 1 _ rfl
      have YY := dH (((dU hY).put 0 (.slice oa rs.length oc)).put 1 (.int .i64 tr))
      have OO := dH (((dU hA).far (b := w.heap.size + 1) (o := 0) (by omega) (.slice oa rs.length oc)).far (b := w.heap.size + 1) (o := 1) (by omega) (.int .i64 tr))
      have BB := dH ((hb.setCell (p := ⟨w.heap.size + 1, 0, none⟩) (by simp only; omega) (.slice oa rs.length oc)).setCell (p := ⟨w.heap.size + 1, 1, none⟩) (by simp only; omega) (.int .i64 tr))
      clear hA HR HN HL eT
      go_wp2_with fail
      generalize (wr.setCell ⟨w.heap.size + 1, 0, none⟩ (.slice oa rs.length oc)).setCell ⟨w.heap.size + 1, 1, none⟩ (.int .i64 tr) = V at *
      have q0 := ((dU YY).2 0 _ rfl).1
      have q1 := ((dU YY).2 1 _ rfl).1
      clear z0 z1 s0 s1 y0 y1 p0 p1 x0
      refine bodyPost_ret (v := .agg #[.slice oa rs.length oc, .int .i64 tr]) (by simp [results, Tryz.results156, go_sem, q0, q1]) rfl ⟨⟨_, rfl, (dU OO).mono (by omega)⟩, dU BB⟩
end Go.Proofs.YtjkjmapibcfcdaaGreat
