/- The walk of the law FnSpan. -/
import Derived.Test.YtgedaaknkhkegaaDrwG
import Derived.Test.YtgedaaknkhkegaaAppN
import Derived.Test.YtgedaaknkhkegaaDomJ
import Derived.Test.YtgedaaknkhkegaaWithN
import Derived.Test.YtgedaaknkhkegaaImplD
import Derived.Test.YtgedaaknkhkegaaBigB
import Derived.Test.YtgedaaknkhkegaaRowB
import Derived.Deep.RegionHeld3
import Derived.Deep.DeepCutAuto
namespace Go.Proofs.Ytgedaaknkhkegaa
open Go.ChangeShapes Go.WideShapes Go.ChangeAt Go.RowKit
set_option linter.unusedVariables false
set_option linter.unusedSimpArgs false

theorem src_grown {w w' : World} {g : Nat} {l : List Value} {row : Option Nat} (h : ∀ j u, l[j]? = some u → w.cell? ((⟨g, 0, none⟩ : Addr).add j) = some u) (hg : w.grownBy w' row) (hn : some g ≠ row) : ∀ j u, l[j]? = some u → w'.cell? ((⟨g, 0, none⟩ : Addr).add j) = some u := fun j u hu => by
  have ea : (⟨g, 0, none⟩ : Addr).add j = ⟨g, j, none⟩ := by unfold Addr.add; split <;> simp_all
  have h1 := h j u hu
  rw [ea] at h1 ⊢
  exact hg.cell h1 hn
theorem src_alloc {w : World} {g : Nat} {l : List Value} (h : ∀ j u, l[j]? = some u → w.cell? ((⟨g, 0, none⟩ : Addr).add j) = some u) (o : Obj) : ∀ j u, l[j]? = some u → (w.alloc o).cell? ((⟨g, 0, none⟩ : Addr).add j) = some u := src_grown (row := none) h (World.grownBy_alloc w o none) (by simp)
set_option maxHeartbeats 4000000 in
set_option maxRecDepth 100000 in
theorem walkFnSpan (a0 : Option Addr) (len0 cap0 : Nat) (z0 : List Int) (w : World) (w0 : IsRow .u8 w a0 len0 cap0 z0) :
    Calls Try.prog 5 #[.slice a0 len0 cap0] w fun e w' => e = .returned (.bool true) ∧ Below w.heap.size w w' := by
  have hr := row8_of w0
  have hlen := hr.1
  clear w0
  by_cases hbig : 1048576 < len0
  · have CB := dHide (big_yes a0 len0 cap0 hbig hlen)
    go_enter Try.func5, Try.ntmps5
    go_wp2_with fail
    refine (dUnhide CB _).mono ?_
    rintro e w1 ⟨rfl, rfl⟩
    go_wp2
    go_ret
    exact ⟨rfl, Below.refl _ _⟩
  have CB := dHide (big_no a0 len0 cap0 hbig)
  have CD := dHide (drawSpanOf_any a0 len0 cap0 w hr)
  have ha : ∀ (w : World) o, Below w.heap.size w (w.alloc o) := fun w o => (Below.refl _ _).alloc (Nat.le_refl _) o
  clear hbig hr
  go_enter Try.func5, Try.ntmps5
  go_wp2_with fail
  refine (dUnhide CB _).mono ?_
  rintro e w1 ⟨rfl, rfl⟩
  clear CB
  go_wp2_with fail
  refine (dUnhide CD).mono ?_
  rintro e w1 ⟨⟨c, u, ds, cop, xs, rfl, ⟨sv, rfl, o1, hdl, hda, c0, c1⟩, ⟨ox, hxl, hxa⟩⟩, B1⟩
  clear CD
  have n1 := o1.bs
  have n2 := ox.bs
  obtain ⟨-, sa, scap, rfl, -, -⟩ := o1
  obtain ⟨-, ua, ucap, rfl, -, -⟩ := ox
  have ba := ha w1 (.cells #[.slice sa ds.length scap, .int .i64 cop] 26)
  have T2 := Two.new w1 (.slice sa ds.length scap) (.int .i64 cop) 26
  have HN1 := dHide (n1.below ba)
  have HN2 := dHide (n2.below ba)
  have B2 := belowThen B1 ba
  clear n1 n2 B1 ba
  go_wp2_with fail
  generalize hbx : w1.heap.size = bx at *
  generalize w1.alloc (.cells #[.slice sa ds.length scap, .int .i64 cop] 26) = w2 at *
  clear hbx
  have K : Hid (∀ W, Below w2.heap.size w2 W → (W.cell? ⟨bx, 0, none⟩ = some (.slice sa ds.length scap) ∧ W.cell? ⟨bx, 1, none⟩ = some (.int .i64 cop)) ∧ Ns W (.slice sa ds.length scap) ds ∧ Ns W (.slice ua xs.length ucap) xs ∧ Below w.heap.size w W) := fun W hb => ⟨T2.kept hb, (dUnhide HN1).below hb, (dUnhide HN2).below hb, belowThen B2 hb⟩
  clear T2 HN1 HN2 B2
  have hb2 := Below.refl w2.heap.size w2
  obtain ⟨-, m1, m2, -⟩ := dUnhide K w2 hb2
  by_cases hn : nodesP ds cop xs
  · refine (implSpan_yes _ _ ds xs cop w2 m1 m2 hda hxa (by omega) (by omega) (by omega) (by omega) hn).mono ?_
    rintro e w3 ⟨rfl, b3⟩
    have hb3 := belowThen hb2 b3
    clear m1 m2 b3 hb2
    obtain ⟨⟨k0, k1⟩, m1, m2, -⟩ := dUnhide K w3 hb3
    have C4 := dHide (specSpan_yes _ _ ds xs cop w3 m1 m2 hn (by omega))
    clear m1 m2
    go_wp2_with fail
    refine (dUnhide C4).mono ?_
    rintro e w4 ⟨rfl, b4⟩
    have hb4 := belowThen hb3 b4
    have hsl := spanN_le_len ds xs
    have hdp : 1 ≤ ds.length := hn.1.1.1
    have hcfg : Hid (cfgP ds cop) := hn.1
    have HN := dHide hn
    have HDA := dHide hda
    have HXA := dHide hxa
    obtain ⟨N, hN⟩ : ∃ N, spanN ds xs = N := ⟨_, rfl⟩
    have HNE := dHide hN
    rw [hN] at hsl ⊢
    clear C4 b4 hb3 k0 k1 hn hda hxa hN
    obtain ⟨⟨k0, k1⟩, m1, m2, -⟩ := dUnhide K w4 hb4
    have M2 := dHide m2
    have K4 : Hid (∀ W, Below w4.heap.size w4 W → (W.cell? ⟨bx, 0, none⟩ = some (.slice sa ds.length scap) ∧ W.cell? ⟨bx, 1, none⟩ = some (.int .i64 cop)) ∧ Ns W (.slice sa ds.length scap) ds ∧ Ns W (.slice ua xs.length ucap) xs ∧ Below w.heap.size w W) := fun W hb => dUnhide K W (belowThen hb4 hb)
    have hbr : Below w4.heap.size w4 w4.drew := (Below.refl _ _).drew
    have hds : (1 : Int) ≤ (ds.length : Int) := by omega
    clear m1 m2 K hb4
    have hwr : IntKind.i64.wrap ((ds.length : Int) - 1) = (ds.length : Int) - 1 := by rw [IntKind.wrap_i64]; omega
    have rOE : Hid (((w4.drew.alloc (.cells #[.int .i64 ((ds.length : Int) - 1)] 3)).alloc (.cells #[] 3)).ownsRow w4.heap.size 3 1 (.slice (some ⟨w4.heap.size + 1, 0, none⟩) 0 0) 0 (ncells [])) := by
      have := World.ownsRow_made (base := w4.heap.size) (e := 3) (size := 1) (w4.drew.alloc (.cells #[.int .i64 ((ds.length : Int) - 1)] 3)) #[] 0 (by simp) (by decide) (by simp)
      simpa [Hid, ncells] using this
    have sEO : Hid (∀ j u, (ncells [(ds.length : Int) - 1])[j]? = some u → ((w4.drew.alloc (.cells #[] 3)).alloc (.cells #[.int .i64 ((ds.length : Int) - 1)] 3)).cell? ((⟨w4.heap.size + 1, 0, none⟩ : Addr).add j) = some u) := by
      have e : (w4.drew.alloc (.cells #[] 3)).heap.size = w4.heap.size + 1 := by simp
      have := one_int (w4.drew.alloc (.cells #[] 3)) ((ds.length : Int) - 1) 3
      rw [e] at this
      exact this
    go_wp2
    go_cut [6] (fun sv wx => ∃ u, sv = u ∧ wx.ownsRow w4.heap.size 3 1 u (xs ++ [(ds.length : Int) - 1]).length (ncells (xs ++ [(ds.length : Int) - 1])) ∧ Below w4.heap.size w4 wx)
    case first =>
     go_region_held3 (fun W => W.cell? ⟨bx, 0, none⟩ = some (.slice sa ds.length scap)) (first | exact cD | exact cB | go_keep)
      (first
        | (refine step_appN rfl _ _ rfl w4.heap.size _ ([] ++ xs) rfl o5 _ 1 ((ds.length : Int) - 1) rfl s5 (by simp; omega) hb5.size ?_; intro v6 w6 o6 r6; have l5 := o5.lt; have hb6 : Below w4.heap.size w4 w6 := hb5.grown r6 hb5.size (fun k hk => (l5 k hk).1); have cD := (dUnhide K4 w6 hb6).1.1)
        | (refine step_appN rfl _ _ rfl w4.heap.size _ ([] ++ xs) rfl (o5.alloc _) w5.heap.size 1 ((ds.length : Int) - 1) rfl (one_int _ _ _) (by simp; omega) (by have := hb5.size; simp; omega) ?_; intro v6 w6 o6 r6; have l5 := o5.lt; have hb6 : Below w4.heap.size w4 w6 := (belowThen hb5 ((Below.refl _ _).alloc (Nat.le_refl _) (.cells #[.int .i64 ((ds.length : Int) - 1)] 3))).grown r6 (by have := hb5.size; simp; omega) (fun k hk => (l5 k hk).1); have cD := (dUnhide K4 w6 hb6).1.1)
        | (refine step_appNs rfl _ _ rfl w4.heap.size _ [] rfl (World.ownsRow_made w4.drew #[] 0 (Nat.le_refl _) (by decide) (by simp)) _ xs rfl ((dUnhide M2).below ((belowThen hbr ((Below.refl _ _).alloc (Nat.le_refl _) (.cells #[] 3))))) (by simp; omega) (by simp <;> omega) ?_; intro v5 w5 o5 r5; have hb5 : Below w4.heap.size w4 w5 := ((belowThen hbr ((Below.refl _ _).alloc (Nat.le_refl _) (.cells #[] 3)))).grown r5 (by simp <;> omega) (fun k hk => by have h1 := Option.some.inj hk; simp at h1; omega); have cB := (dUnhide K4 w5 hb5).1.1)
        | (refine step_appNs rfl _ _ rfl w4.heap.size _ [] rfl ((World.ownsRow_made w4.drew #[] 0 (Nat.le_refl _) (by decide) (by simp)).alloc (.cells #[.int .i64 ((ds.length : Int) - 1)] 3)) _ xs rfl ((dUnhide M2).below ((belowThen (belowThen hbr ((Below.refl _ _).alloc (Nat.le_refl _) (.cells #[] 3))) ((Below.refl _ _).alloc (Nat.le_refl _) (.cells #[.int .i64 ((ds.length : Int) - 1)] 3))))) (by simp; omega) (by simp <;> omega) ?_; intro v5 w5 o5 r5; have hb5 : Below w4.heap.size w4 w5 := ((belowThen (belowThen hbr ((Below.refl _ _).alloc (Nat.le_refl _) (.cells #[] 3))) ((Below.refl _ _).alloc (Nat.le_refl _) (.cells #[.int .i64 ((ds.length : Int) - 1)] 3)))).grown r5 (by simp <;> omega) (fun k hk => by have h1 := Option.some.inj hk; simp at h1; omega); have cB := (dUnhide K4 w5 hb5).1.1; have s5 := src_grown (dUnhide sEO) r5 (fun e => by have h1 := Option.some.inj e; simp at h1))
        | (refine step_appNs rfl _ _ rfl w4.heap.size _ [] rfl (dUnhide rOE) _ xs rfl ((dUnhide M2).below ((belowThen (belowThen hbr ((Below.refl _ _).alloc (Nat.le_refl _) (.cells #[.int .i64 ((ds.length : Int) - 1)] 3))) ((Below.refl _ _).alloc (Nat.le_refl _) (.cells #[] 3))))) (by simp; omega) (by simp <;> omega) ?_; intro v5 w5 o5 r5; have hb5 : Below w4.heap.size w4 w5 := ((belowThen (belowThen hbr ((Below.refl _ _).alloc (Nat.le_refl _) (.cells #[.int .i64 ((ds.length : Int) - 1)] 3))) ((Below.refl _ _).alloc (Nat.le_refl _) (.cells #[] 3)))).grown r5 (by simp <;> omega) (fun k hk => by have h1 := Option.some.inj hk; simp at h1; omega); have cB := (dUnhide K4 w5 hb5).1.1; have s5 := src_grown (src_alloc (one_int w4.drew ((ds.length : Int) - 1) 3) (.cells #[] 3)) r5 (fun e => by have h1 := Option.some.inj e; simp at h1)))
     all_goals
      go_wp2_with fail
      go_meet
      case rel => exact ⟨_, rfl, by simpa using o6, hb6⟩
    case rest =>
      obtain ⟨u6, rfl, o6, hb6⟩ := hcut
      have n6 := rowN_ns o6
      obtain ⟨ma, mn, mc, rfl⟩ := rowN_slice o6
      have hmn : mn = (xs ++ [(ds.length : Int) - 1]).length := rowN_len o6
      have Y : Hid ((xs = [] ∨ xs.getLast? ≠ some ((ds.length : Int) - 1)) → nodesP ds cop (xs ++ [(ds.length : Int) - 1])) := nodes_more (dUnhide HN)
      have MA : Hid (allInt (xs ++ [(ds.length : Int) - 1])) := fun x h => by
        rcases List.mem_append.1 h with h1 | h1
        · exact dUnhide HXA x h1
        · rw [List.mem_singleton.1 h1]; omega
      have SM := dHide (spanN_more ds xs ((ds.length : Int) - 1))
      have hml : (xs ++ [(ds.length : Int) - 1]).length ≤ 1048576 := by simp; omega
      generalize xs ++ [(ds.length : Int) - 1] = more at *
      subst hmn
      have K9 : Hid (∀ W, Below wc.heap.size wc W → (W.cell? ⟨bx, 0, none⟩ = some (.slice sa ds.length scap) ∧ W.cell? ⟨bx, 1, none⟩ = some (.int .i64 cop)) ∧ Ns W (.slice sa ds.length scap) ds ∧ Ns W (.slice ua xs.length ucap) xs ∧ Ns W (.slice ma more.length mc) more ∧ Below w.heap.size w W) := fun W hb => by
        obtain ⟨p1, p2, p3, p4⟩ := dUnhide K4 W (belowThen hb6 hb)
        exact ⟨p1, p2, p3, n6.below hb, p4⟩
      clear K4 hb6 o6 n6 rOE sEO M2 k0 k1 hbr
      generalize hwc : wc = w9 at *
      clear hwc
      have hb9 := Below.refl w9.heap.size w9
      obtain ⟨⟨k0, k1⟩, m1, m2, m3, -⟩ := dUnhide K9 w9 hb9
      have HD : Hid (∀ b : Bool, (b = true ↔ holdsP ds cop xs) → (decide (cop ≤ (N : Int)) == b) = true) := fun b hb => by
        have hh : holdsP ds cop xs ↔ cop ≤ (N : Int) := by
          rw [← dUnhide HNE]
          exact ⟨fun h => h.2, fun h => ⟨dUnhide HN, h⟩⟩
        cases b
        · have : ¬ cop ≤ (N : Int) := fun h => by have := hb.2 (hh.2 h); cases this
          simp [this]
        · have := hh.1 (hb.1 rfl)
          simp [this]
      clear m1 m3
      have M2 := dHide m2
      clear m2
      go_wp2_with fail
      go_cut [53] (fun sv wx => ∃ b : Bool, sv = .bool b ∧ (b = false → (xs = [] ∨ xs.getLast? ≠ some ((ds.length : Int) - 1))) ∧ Below w9.heap.size w9 wx)
      case first =>
        rcases Nat.eq_zero_or_pos xs.length with hx0 | hx0
        · have hxn : Hid (xs = []) := List.length_eq_zero_iff.1 hx0
          have hd : decide (0 < xs.length) = false := decide_eq_false (by omega)
          clear hx0
          go_quiet (fail)
          go_wp2_with fail
          go_meet
          case rel => exact ⟨false, rfl, fun _ => .inl (dUnhide hxn), below_drewN (Below.refl _ _) _⟩
        · obtain ⟨h0, a9, c9, h9, -, hu⟩ := dUnhide M2
          cases h9
          obtain ⟨g, off, rfl, hc⟩ := orN_of_lt hu (k := xs.length - 1) (by omega)
          have cg := hc (xs.length - 1) (by omega)
          have hlast : Hid (xs.getLast? = some (xs[xs.length - 1]'(by omega))) := by
            rw [Hid, List.getLast?_eq_getElem?]
            simp
          obtain ⟨k, hk⟩ : ∃ k, xs.length - 1 = k := ⟨_, rfl⟩
          have hk1 : k < xs.length := by omega
          have hk2 : (k : Int) < (xs.length : Int) := by omega
          have hk3 : (0 : Int) ≤ (k : Int) := by omega
          have hd : decide (0 < xs.length) = true := decide_eq_true (by omega)
          have w1' : IntKind.i64.wrap ((xs.length : Int) - 1) = (k : Int) := by rw [IntKind.wrap_i64]; omega
          have w2' : (xs.length : Int) - 1 = (k : Int) := by omega
          generalize xs[xs.length - 1]'(by omega) = y at *
          rw [hk] at cg
          clear hu hc M2 hk hx0 h0
          by_cases hy : (y == (ds.length : Int) - 1) = true
          · go_quiet (fail)
            go_wp2_with fail
            go_meet
            case rel => exact ⟨true, rfl, (fun h => by cases h), below_drewN (Below.refl _ _) _⟩
          · have hy' : (y == (ds.length : Int) - 1) = false := by simpa using hy
            have hyl : Hid (xs.getLast? ≠ some ((ds.length : Int) - 1)) := by
              rw [dUnhide hlast]
              intro e
              exact hy (by simpa using e)
            clear hy
            go_quiet (fail)
            go_wp2_with fail
            go_meet
            case rel => exact ⟨false, rfl, (fun _ => .inr (dUnhide hyl)), below_drewN (Below.refl _ _) _⟩
      case rest =>
        obtain ⟨b, rfl, hbl, bc⟩ := hcut
        have K10 : Hid (∀ W, Below wc.heap.size wc W → (W.cell? ⟨bx, 0, none⟩ = some (.slice sa ds.length scap) ∧ W.cell? ⟨bx, 1, none⟩ = some (.int .i64 cop)) ∧ Ns W (.slice sa ds.length scap) ds ∧ Ns W (.slice ua xs.length ucap) xs ∧ Ns W (.slice ma more.length mc) more ∧ Below w.heap.size w W) := fun W hb => dUnhide K9 W (belowThen bc hb)
        clear K9 k0 k1 M2 hb9 bc
        generalize hwc : wc = w10 at *
        clear hwc
        have hb10 : Below w10.heap.size w10 w10.drew := (Below.refl _ _).drew
        obtain ⟨⟨k0, k1⟩, -⟩ := dUnhide K10 w10 (Below.refl _ _)
        cases b
        · have hmn := dUnhide Y (hbl rfl)
          have HMN := dHide hmn
          obtain ⟨-, m1, -, m3, -⟩ := dUnhide K10 w10 (Below.refl _ _)
          have CS := dHide (implSpan_yes _ _ ds more cop w10 m1 m3 (dUnhide HDA) (dUnhide MA) (by omega) hml (by omega) (by omega) hmn)
          have hMle := spanN_le_len ds more
          clear hbl hmn m1 m3
          go_wp2_with fail
          refine (dUnhide CS).mono ?_
          rintro e w11 ⟨rfl, b11⟩
          have K11 : Hid (∀ W, Below w11.heap.size w11 W → (W.cell? ⟨bx, 0, none⟩ = some (.slice sa ds.length scap) ∧ W.cell? ⟨bx, 1, none⟩ = some (.int .i64 cop)) ∧ Ns W (.slice sa ds.length scap) ds ∧ Ns W (.slice ua xs.length ucap) xs ∧ Ns W (.slice ma more.length mc) more ∧ Below w.heap.size w W) := fun W hb => dUnhide K10 W (belowThen b11 hb)
          clear K10 k0 k1 hb10 CS b11 Y
          have SM' := dUnhide SM
          rw [dUnhide HNE] at SM'
          generalize spanN ds more = M at *
          have hb11 : Below w11.heap.size w11 w11.drew := (Below.refl _ _).drew
          obtain ⟨⟨k0, k1⟩, -⟩ := dUnhide K11 w11 (Below.refl _ _)
          go_wp2
          rcases SM' with hM | hM
          · subst hM
            have e1 : ((M : Int) == (M : Int)) = true := by simp
            refine wp_region_noPanic ?_
            refine wp_region_held_drew (S := fun W => W.cell? ⟨bx, 0, none⟩ = some (.slice sa ds.length scap) ∧ W.cell? ⟨bx, 1, none⟩ = some (.int .i64 cop)) (by kernel_rfl) ?_ (fun hHeld => ?_)
            · go_keep
            refine wpAnyH_take (i := 0) (oi := { dst := some 71, op := Op.move (Operand.tmp 7), type := 3, pos := "laws.go:358", after := #[], guard := none }) (v := ?_) rfl (by kernel_rfl) (by kernel_rfl) (by kernel_rfl) (fun _ _ _ h => h) (Or.inl ⟨by rfl, ?_⟩) (by assumption) ?_
            rotate_left 1
            · intro w hSw
              (try dsimp only at hSw)
              first | (go_simp; done) | (go_simp; with_reducible rfl)
            try simp only [Act.put, List.setIfInBounds_toArray, List.set_cons_zero, List.set_cons_succ]
            refine wpAnyH_take (i := 1) (oi := { dst := some 72, op := Op.move (Operand.tmp 5), type := 3, pos := "laws.go:358", after := #[], guard := none }) (v := ?_) rfl (by kernel_rfl) (by kernel_rfl) (by kernel_rfl) (fun _ _ _ h => h) (Or.inl ⟨by rfl, ?_⟩) (by assumption) ?_
            rotate_left 1
            · intro w hSw
              (try dsimp only at hSw)
              first | (go_simp; done) | (go_simp; with_reducible rfl)
            try simp only [Act.put, List.setIfInBounds_toArray, List.set_cons_zero, List.set_cons_succ]
            refine wpAnyH_take (i := 2) (oi := { dst := some 73, op := Op.binOp BinOp.eql 3 (Operand.tmp 71) (Operand.tmp 72) 3, type := 4, pos := "laws.go:358", after := #[{ on := 0, ground := Ground.data }, { on := 1, ground := Ground.data }], guard := none }) (v := ?_) rfl (by kernel_rfl) (by kernel_rfl) (by kernel_rfl) (fun _ _ _ h => h) (Or.inl ⟨by rfl, ?_⟩) (by assumption) ?_
            rotate_left 1
            · intro w hSw
              (try dsimp only at hSw)
              first | (go_simp; done) | (go_simp; with_reducible rfl)
            try simp only [Act.put, List.setIfInBounds_toArray, List.set_cons_zero, List.set_cons_succ]
            refine wpAnyH_take (i := 3) (oi := { dst := some 74, op := Op.move (Operand.tmp 73), type := 4, pos := "laws.go:358", after := #[{ on := 2, ground := Ground.data }], guard := none }) (v := ?_) rfl (by kernel_rfl) (by kernel_rfl) (by kernel_rfl) (fun _ _ _ h => h) (Or.inl ⟨by rfl, ?_⟩) (by assumption) ?_
            rotate_left 1
            · intro w hSw
              (try dsimp only at hSw)
              first | (go_simp; done) | (go_simp; with_reducible rfl)
            try simp only [Act.put, List.setIfInBounds_toArray, List.set_cons_zero, List.set_cons_succ]
            refine wpAnyH_take (i := 4) (oi := { dst := some 75, op := Op.move (Operand.tmp 7), type := 3, pos := "laws.go:358", after := #[{ on := 3, ground := Ground.guard }], guard := some (3, false) }) (v := undef) rfl (by kernel_rfl) (by kernel_rfl) (by kernel_rfl) (fun _ _ _ h => h) (Or.inr ⟨by rfl, rfl⟩) (by assumption) ?_
            try simp only [Act.put, List.setIfInBounds_toArray, List.set_cons_zero, List.set_cons_succ]
            refine wpAnyH_take (i := 5) (oi := { dst := some 76, op := Op.move (Operand.tmp 5), type := 3, pos := "laws.go:358", after := #[{ on := 3, ground := Ground.guard }], guard := some (3, false) }) (v := undef) rfl (by kernel_rfl) (by kernel_rfl) (by kernel_rfl) (fun _ _ _ h => h) (Or.inr ⟨by rfl, rfl⟩) (by assumption) ?_
            try simp only [Act.put, List.setIfInBounds_toArray, List.set_cons_zero, List.set_cons_succ]
            refine wpAnyH_take (i := 6) (oi := { dst := some 77, op := Op.binOp BinOp.add 3 (Operand.tmp 76) (Operand.const (Value.int IntKind.i64 1)) 3, type := 3, pos := "laws.go:358", after := #[{ on := 5, ground := Ground.data }, { on := 3, ground := Ground.guard }], guard := some (3, false) }) (v := undef) rfl (by kernel_rfl) (by kernel_rfl) (by kernel_rfl) (fun _ _ _ h => h) (Or.inr ⟨by rfl, rfl⟩) (by assumption) ?_
            try simp only [Act.put, List.setIfInBounds_toArray, List.set_cons_zero, List.set_cons_succ]
            refine wpAnyH_take (i := 7) (oi := { dst := some 78, op := Op.binOp BinOp.eql 3 (Operand.tmp 75) (Operand.tmp 77) 3, type := 4, pos := "laws.go:358", after := #[{ on := 4, ground := Ground.data }, { on := 6, ground := Ground.data }, { on := 3, ground := Ground.guard }], guard := some (3, false) }) (v := undef) rfl (by kernel_rfl) (by kernel_rfl) (by kernel_rfl) (fun _ _ _ h => h) (Or.inr ⟨by rfl, rfl⟩) (by assumption) ?_
            try simp only [Act.put, List.setIfInBounds_toArray, List.set_cons_zero, List.set_cons_succ]
            refine wpAnyH_take (i := 8) (oi := { dst := some 79, op := Op.pick (Operand.tmp 74) (Operand.const (Value.bool true)) (Operand.tmp 78), type := 4, pos := "laws.go:358", after := #[{ on := 3, ground := Ground.data }, { on := 7, ground := Ground.data }], guard := none }) (v := ?_) rfl (by kernel_rfl) (by kernel_rfl) (by kernel_rfl) (fun _ _ _ h => h) (Or.inl ⟨by rfl, ?_⟩) (by assumption) ?_
            rotate_left 1
            · intro w hSw
              (try dsimp only at hSw)
              first | (go_simp; done) | (go_simp; with_reducible rfl)
            try simp only [Act.put, List.setIfInBounds_toArray, List.set_cons_zero, List.set_cons_succ]
            refine wpAnyH_take (i := 9) (oi := { dst := some 80, op := Op.move (Operand.tmp 79), type := 4, pos := "laws.go:358", after := #[{ on := 8, ground := Ground.data }, { on := 3, ground := Ground.chain }], guard := none }) (v := ?_) rfl (by kernel_rfl) (by kernel_rfl) (by kernel_rfl) (fun _ _ _ h => h) (Or.inl ⟨by rfl, ?_⟩) (by assumption) ?_
            rotate_left 1
            · intro w hSw
              (try dsimp only at hSw)
              first | (go_simp; done) | (go_simp; with_reducible rfl)
            try simp only [Act.put, List.setIfInBounds_toArray, List.set_cons_zero, List.set_cons_succ]
            refine wpAnyH_take (i := 10) (oi := { dst := some 81, op := Op.move (Operand.tmp 5), type := 3, pos := "laws.go:358", after := #[{ on := 9, ground := Ground.guard }], guard := some (9, true) }) (v := ?_) rfl (by kernel_rfl) (by kernel_rfl) (by kernel_rfl) (fun _ _ _ h => h) (Or.inl ⟨by rfl, ?_⟩) (by assumption) ?_
            rotate_left 1
            · intro w hSw
              (try dsimp only at hSw)
              first | (go_simp; done) | (go_simp; with_reducible rfl)
            try simp only [Act.put, List.setIfInBounds_toArray, List.set_cons_zero, List.set_cons_succ]
            refine wpAnyH_take (i := 11) (oi := { dst := some 82, op := Op.fieldAddr 26 (Operand.tmp 3) 1, type := 0, pos := "laws.go:358", after := #[{ on := 9, ground := Ground.guard }], guard := some (9, true) }) (v := ?_) rfl (by kernel_rfl) (by kernel_rfl) (by kernel_rfl) (fun _ _ _ h => h) (Or.inl ⟨by rfl, ?_⟩) (by assumption) ?_
            rotate_left 1
            · intro w hSw
              (try dsimp only at hSw)
              first | (go_simp; done) | (go_simp; with_reducible rfl)
            try simp only [Act.put, List.setIfInBounds_toArray, List.set_cons_zero, List.set_cons_succ]
            refine wpAnyH_take (i := 12) (oi := { dst := some 83, op := Op.load 3 (Operand.tmp 82), type := 3, pos := "laws.go:358", after := #[{ on := 11, ground := Ground.data }, { on := 9, ground := Ground.guard }], guard := some (9, true) }) (v := ?_) rfl (by kernel_rfl) (by kernel_rfl) (by kernel_rfl) (fun _ _ _ h => h) (Or.inl ⟨by rfl, ?_⟩) (by assumption) ?_
            rotate_left 1
            · intro w hSw
              (try dsimp only at hSw)
              first | (go_simp; done) | (go_simp; with_reducible rfl)
            try simp only [Act.put, List.setIfInBounds_toArray, List.set_cons_zero, List.set_cons_succ]
            refine wpAnyH_take (i := 13) (oi := { dst := some 84, op := Op.binOp BinOp.geq 3 (Operand.tmp 81) (Operand.tmp 83) 3, type := 4, pos := "laws.go:358", after := #[{ on := 10, ground := Ground.data }, { on := 12, ground := Ground.data }, { on := 9, ground := Ground.guard }], guard := some (9, true) }) (v := ?_) rfl (by kernel_rfl) (by kernel_rfl) (by kernel_rfl) (fun _ _ _ h => h) (Or.inl ⟨by rfl, ?_⟩) (by assumption) ?_
            rotate_left 1
            · intro w hSw
              (try dsimp only at hSw)
              first | (go_simp; done) | (go_simp; with_reducible rfl)
            try simp only [Act.put, List.setIfInBounds_toArray, List.set_cons_zero, List.set_cons_succ]
            refine wpAnyH_take (i := 14) (oi := { dst := some 85, op := Op.load 26 (Operand.tmp 3), type := 26, pos := "laws.go:358", after := #[{ on := 9, ground := Ground.guard }], guard := some (9, true) }) (v := ?_) rfl (by kernel_rfl) (by kernel_rfl) (by kernel_rfl) (fun _ _ _ h => h) (Or.inl ⟨by rfl, ?_⟩) (by assumption) ?_
            rotate_left 1
            · intro w hSw
              (try dsimp only at hSw)
              first | (go_simp; done) | (go_simp; with_reducible rfl)
            try simp only [Act.put, List.setIfInBounds_toArray, List.set_cons_zero, List.set_cons_succ]
            refine wpAnyH_take (i := 15) (oi := { dst := some 86, op := Op.move (Operand.tmp 4), type := 24, pos := "laws.go:358", after := #[{ on := 9, ground := Ground.guard }], guard := some (9, true) }) (v := ?_) rfl (by kernel_rfl) (by kernel_rfl) (by kernel_rfl) (fun _ _ _ h => h) (Or.inl ⟨by rfl, ?_⟩) (by assumption) ?_
            rotate_left 1
            · intro w hSw
              (try dsimp only at hSw)
              first | (go_simp; done) | (go_simp; with_reducible rfl)
            try simp only [Act.put, List.setIfInBounds_toArray, List.set_cons_zero, List.set_cons_succ]
            refine wpAnyH_ready (rs := [16]) (by kernel_rfl) (by simp) ?_
            refine AllReadyH.cons (o := { dst := some 87, op := Op.call { callee := Callee.value (Operand.func 16), args := #[Operand.tmp 85, Operand.tmp 86], argTypes := #[26, 24] }, type := 4, pos := "laws.go:358", after := #[{ on := 14, ground := Ground.data }, { on := 15, ground := Ground.data }, { on := 9, ground := Ground.chain }, { on := 9, ground := Ground.guard }], guard := some (9, true) }) rfl (fun K hK => ?_) AllReadyH.nil
            go_simp
            have KA := dUnhide K11 _ hb11
            refine (implHolds_any _ _ ds xs cop _ KA.2.1 KA.2.2.1 (dUnhide HDA) (dUnhide HXA) (by omega) (by omega) (by omega) (by omega)).mono ?_
            rintro e w12 ⟨⟨bb, rfl, hbb⟩, b12⟩
            have hb12 := belowThen hb11 b12
            obtain ⟨⟨p0, p1⟩, -⟩ := dUnhide K11 _ hb12
            have hv := dUnhide HD bb hbb
            clear b12 KA
            (try go_wp2_with fail)
            refine hK.out _ _ ?_ (fun hHeld => ?_)
            · go_keep
            clear hK K
            try simp only [Act.put, List.setIfInBounds_toArray, List.set_cons_zero, List.set_cons_succ]
            refine wpAnyH_take (i := 17) (oi := { dst := some 88, op := Op.binOp BinOp.eql 4 (Operand.tmp 84) (Operand.tmp 87) 4, type := 4, pos := "laws.go:358", after := #[{ on := 13, ground := Ground.data }, { on := 16, ground := Ground.data }, { on := 9, ground := Ground.guard }], guard := some (9, true) }) (v := ?_) rfl (by kernel_rfl) (by kernel_rfl) (by kernel_rfl) (fun _ _ _ h => h) (Or.inl ⟨by rfl, ?_⟩) (by assumption) ?_
            rotate_left 1
            · intro w hSw
              (try dsimp only at hSw)
              first | (go_simp; done) | (go_simp; with_reducible rfl)
            try simp only [Act.put, List.setIfInBounds_toArray, List.set_cons_zero, List.set_cons_succ]
            refine wpAnyH_take (i := 18) (oi := { dst := some 89, op := Op.pick (Operand.tmp 80) (Operand.tmp 88) (Operand.const (Value.bool false)), type := 4, pos := "laws.go:358", after := #[{ on := 9, ground := Ground.data }, { on := 17, ground := Ground.data }], guard := none }) (v := ?_) rfl (by kernel_rfl) (by kernel_rfl) (by kernel_rfl) (fun _ _ _ h => h) (Or.inl ⟨by rfl, ?_⟩) (by assumption) ?_
            rotate_left 1
            · intro w hSw
              (try dsimp only at hSw)
              first | (go_simp; done) | (go_simp; with_reducible rfl)
            try simp only [Act.put, List.setIfInBounds_toArray, List.set_cons_zero, List.set_cons_succ]
            refine wpAnyH_take (i := 19) (oi := { dst := some 90, op := Op.move (Operand.tmp 89), type := 4, pos := "laws.go:358", after := #[{ on := 18, ground := Ground.data }, { on := 16, ground := Ground.chain }], guard := none }) (v := ?_) rfl (by kernel_rfl) (by kernel_rfl) (by kernel_rfl) (fun _ _ _ h => h) (Or.inl ⟨by rfl, ?_⟩) (by assumption) ?_
            rotate_left 1
            · intro w hSw
              (try dsimp only at hSw)
              first | (go_simp; done) | (go_simp; with_reducible rfl)
            try simp only [Act.put, List.setIfInBounds_toArray, List.set_cons_zero, List.set_cons_succ]
            refine wpAnyH_take (i := 20) (oi := { dst := some 91, op := Op.load 26 (Operand.tmp 3), type := 26, pos := "laws.go:358", after := #[{ on := 19, ground := Ground.guard }], guard := some (19, true) }) (v := ?_) rfl (by kernel_rfl) (by kernel_rfl) (by kernel_rfl) (fun _ _ _ h => h) (Or.inl ⟨by rfl, ?_⟩) (by assumption) ?_
            rotate_left 1
            · intro w hSw
              (try dsimp only at hSw)
              first | (go_simp; done) | (go_simp; with_reducible rfl)
            try simp only [Act.put, List.setIfInBounds_toArray, List.set_cons_zero, List.set_cons_succ]
            refine wpAnyH_ready (rs := [21]) (by kernel_rfl) (by simp) ?_
            refine AllReadyH.cons (o := { dst := some 92, op := Op.call { callee := Callee.value (Operand.func 29), args := #[Operand.tmp 91], argTypes := #[26] }, type := 4, pos := "laws.go:358", after := #[{ on := 20, ground := Ground.data }, { on := 19, ground := Ground.chain }, { on := 19, ground := Ground.guard }], guard := some (19, true) }) rfl (fun K hK => ?_) AllReadyH.nil
            go_simp
            have KA := dUnhide K11 _ hb12
            refine (implCfg_any _ ds cop _ KA.2.1 (dUnhide HDA) (by omega) (by omega) (by omega)).mono ?_
            rintro e w13 ⟨h13, b13⟩
            obtain rfl := h13.of_yes (dUnhide hcfg)
            have hb13 := belowThen hb12 b13
            obtain ⟨⟨s0, s1⟩, -⟩ := dUnhide K11 _ hb13
            clear b13 KA h13
            (try go_wp2_with fail)
            refine hK.out _ _ ?_ (fun hHeld => ?_)
            · go_keep
            clear hK K
            try simp only [Act.put, List.setIfInBounds_toArray, List.set_cons_zero, List.set_cons_succ]
            refine wpAnyH_take (i := 22) (oi := { dst := some 93, op := Op.pick (Operand.tmp 90) (Operand.tmp 92) (Operand.const (Value.bool false)), type := 4, pos := "laws.go:358", after := #[{ on := 19, ground := Ground.data }, { on := 21, ground := Ground.data }], guard := none }) (v := ?_) rfl (by kernel_rfl) (by kernel_rfl) (by kernel_rfl) (fun _ _ _ h => h) (Or.inl ⟨by rfl, ?_⟩) (by assumption) ?_
            rotate_left 1
            · intro w hSw
              (try dsimp only at hSw)
              first | (go_simp; done) | (go_simp; with_reducible rfl)
            try simp only [Act.put, List.setIfInBounds_toArray, List.set_cons_zero, List.set_cons_succ]
            refine wpAnyH_take (i := 23) (oi := { dst := some 2, op := Op.assign (Operand.tmp 93), type := 4, pos := "laws.go:358", after := #[{ on := 22, ground := Ground.data }, { on := 21, ground := Ground.chain }, { on := 0, ground := Ground.phase }, { on := 1, ground := Ground.phase }, { on := 2, ground := Ground.phase }, { on := 3, ground := Ground.phase }, { on := 4, ground := Ground.phase }, { on := 5, ground := Ground.phase }, { on := 6, ground := Ground.phase }, { on := 7, ground := Ground.phase }, { on := 8, ground := Ground.phase }, { on := 9, ground := Ground.phase }, { on := 10, ground := Ground.phase }, { on := 11, ground := Ground.phase }, { on := 12, ground := Ground.phase }, { on := 13, ground := Ground.phase }, { on := 14, ground := Ground.phase }, { on := 15, ground := Ground.phase }, { on := 16, ground := Ground.phase }, { on := 17, ground := Ground.phase }, { on := 18, ground := Ground.phase }, { on := 19, ground := Ground.phase }, { on := 20, ground := Ground.phase }, { on := 21, ground := Ground.phase }, { on := 22, ground := Ground.phase }], guard := none }) (v := ?_) rfl (by kernel_rfl) (by kernel_rfl) (by kernel_rfl) (fun _ _ _ h => h) (Or.inl ⟨by rfl, ?_⟩) (by assumption) ?_
            rotate_left 1
            · intro w hSw
              (try dsimp only at hSw)
              first | (go_simp; done) | (go_simp; with_reducible rfl)
            try simp only [Act.put, List.setIfInBounds_toArray, List.set_cons_zero, List.set_cons_succ]
            refine wpAnyH_done (by kernel_rfl) ?_ _
            refine NoPanic.normal ?_
            obtain ⟨-, -, -, -, Be⟩ := dUnhide K11 _ hb13
            go_wp2
            go_ret
            exact ⟨rfl, Be⟩
          · have e1 : ((M : Int) == (N : Int)) = false := by rw [beq_eq_false_iff_ne]; omega
            have e2 : ((M : Int) == (N : Int) + 1) = true := by rw [beq_iff_eq]; omega
            have hN2 : N ≤ 20 := by omega
            have hw2 : IntKind.i64.wrap ((N : Int) + 1) = (N : Int) + 1 := by rw [IntKind.wrap_i64]; omega
            have e3 : ((M : Int) == IntKind.i64.wrap ((N : Int) + 1)) = true := by rw [hw2]; exact e2
            clear hM
            refine wp_region_noPanic ?_
            refine wp_region_held_drew (S := fun W => W.cell? ⟨bx, 0, none⟩ = some (.slice sa ds.length scap) ∧ W.cell? ⟨bx, 1, none⟩ = some (.int .i64 cop)) (by kernel_rfl) ?_ (fun hHeld => ?_)
            · go_keep
            refine wpAnyH_take (i := 0) (oi := { dst := some 71, op := Op.move (Operand.tmp 7), type := 3, pos := "laws.go:358", after := #[], guard := none }) (v := ?_) rfl (by kernel_rfl) (by kernel_rfl) (by kernel_rfl) (fun _ _ _ h => h) (Or.inl ⟨by rfl, ?_⟩) (by assumption) ?_
            rotate_left 1
            · intro w hSw
              (try dsimp only at hSw)
              first | (go_simp; done) | (go_simp; with_reducible rfl)
            try simp only [Act.put, List.setIfInBounds_toArray, List.set_cons_zero, List.set_cons_succ]
            refine wpAnyH_take (i := 1) (oi := { dst := some 72, op := Op.move (Operand.tmp 5), type := 3, pos := "laws.go:358", after := #[], guard := none }) (v := ?_) rfl (by kernel_rfl) (by kernel_rfl) (by kernel_rfl) (fun _ _ _ h => h) (Or.inl ⟨by rfl, ?_⟩) (by assumption) ?_
            rotate_left 1
            · intro w hSw
              (try dsimp only at hSw)
              first | (go_simp; done) | (go_simp; with_reducible rfl)
            try simp only [Act.put, List.setIfInBounds_toArray, List.set_cons_zero, List.set_cons_succ]
            refine wpAnyH_take (i := 2) (oi := { dst := some 73, op := Op.binOp BinOp.eql 3 (Operand.tmp 71) (Operand.tmp 72) 3, type := 4, pos := "laws.go:358", after := #[{ on := 0, ground := Ground.data }, { on := 1, ground := Ground.data }], guard := none }) (v := ?_) rfl (by kernel_rfl) (by kernel_rfl) (by kernel_rfl) (fun _ _ _ h => h) (Or.inl ⟨by rfl, ?_⟩) (by assumption) ?_
            rotate_left 1
            · intro w hSw
              (try dsimp only at hSw)
              first | (go_simp; done) | (go_simp; with_reducible rfl)
            try simp only [Act.put, List.setIfInBounds_toArray, List.set_cons_zero, List.set_cons_succ]
            refine wpAnyH_take (i := 3) (oi := { dst := some 74, op := Op.move (Operand.tmp 73), type := 4, pos := "laws.go:358", after := #[{ on := 2, ground := Ground.data }], guard := none }) (v := ?_) rfl (by kernel_rfl) (by kernel_rfl) (by kernel_rfl) (fun _ _ _ h => h) (Or.inl ⟨by rfl, ?_⟩) (by assumption) ?_
            rotate_left 1
            · intro w hSw
              (try dsimp only at hSw)
              first | (go_simp; done) | (go_simp; with_reducible rfl)
            try simp only [Act.put, List.setIfInBounds_toArray, List.set_cons_zero, List.set_cons_succ]
            refine wpAnyH_take (i := 4) (oi := { dst := some 75, op := Op.move (Operand.tmp 7), type := 3, pos := "laws.go:358", after := #[{ on := 3, ground := Ground.guard }], guard := some (3, false) }) (v := ?_) rfl (by kernel_rfl) (by kernel_rfl) (by kernel_rfl) (fun _ _ _ h => h) (Or.inl ⟨by rfl, ?_⟩) (by assumption) ?_
            rotate_left 1
            · intro w hSw
              (try dsimp only at hSw)
              first | (go_simp; done) | (go_simp; with_reducible rfl)
            try simp only [Act.put, List.setIfInBounds_toArray, List.set_cons_zero, List.set_cons_succ]
            refine wpAnyH_take (i := 5) (oi := { dst := some 76, op := Op.move (Operand.tmp 5), type := 3, pos := "laws.go:358", after := #[{ on := 3, ground := Ground.guard }], guard := some (3, false) }) (v := ?_) rfl (by kernel_rfl) (by kernel_rfl) (by kernel_rfl) (fun _ _ _ h => h) (Or.inl ⟨by rfl, ?_⟩) (by assumption) ?_
            rotate_left 1
            · intro w hSw
              (try dsimp only at hSw)
              first | (go_simp; done) | (go_simp; with_reducible rfl)
            try simp only [Act.put, List.setIfInBounds_toArray, List.set_cons_zero, List.set_cons_succ]
            refine wpAnyH_take (i := 6) (oi := { dst := some 77, op := Op.binOp BinOp.add 3 (Operand.tmp 76) (Operand.const (Value.int IntKind.i64 1)) 3, type := 3, pos := "laws.go:358", after := #[{ on := 5, ground := Ground.data }, { on := 3, ground := Ground.guard }], guard := some (3, false) }) (v := ?_) rfl (by kernel_rfl) (by kernel_rfl) (by kernel_rfl) (fun _ _ _ h => h) (Or.inl ⟨by rfl, ?_⟩) (by assumption) ?_
            rotate_left 1
            · intro w hSw
              (try dsimp only at hSw)
              first | (go_simp; done) | (go_simp; with_reducible rfl)
            try simp only [Act.put, List.setIfInBounds_toArray, List.set_cons_zero, List.set_cons_succ]
            refine wpAnyH_take (i := 7) (oi := { dst := some 78, op := Op.binOp BinOp.eql 3 (Operand.tmp 75) (Operand.tmp 77) 3, type := 4, pos := "laws.go:358", after := #[{ on := 4, ground := Ground.data }, { on := 6, ground := Ground.data }, { on := 3, ground := Ground.guard }], guard := some (3, false) }) (v := ?_) rfl (by kernel_rfl) (by kernel_rfl) (by kernel_rfl) (fun _ _ _ h => h) (Or.inl ⟨by rfl, ?_⟩) (by assumption) ?_
            rotate_left 1
            · intro w hSw
              (try dsimp only at hSw)
              first | (go_simp; done) | (go_simp; with_reducible rfl)
            try simp only [Act.put, List.setIfInBounds_toArray, List.set_cons_zero, List.set_cons_succ]
            refine wpAnyH_take (i := 8) (oi := { dst := some 79, op := Op.pick (Operand.tmp 74) (Operand.const (Value.bool true)) (Operand.tmp 78), type := 4, pos := "laws.go:358", after := #[{ on := 3, ground := Ground.data }, { on := 7, ground := Ground.data }], guard := none }) (v := ?_) rfl (by kernel_rfl) (by kernel_rfl) (by kernel_rfl) (fun _ _ _ h => h) (Or.inl ⟨by rfl, ?_⟩) (by assumption) ?_
            rotate_left 1
            · intro w hSw
              (try dsimp only at hSw)
              first | (go_simp; done) | (go_simp; with_reducible rfl)
            try simp only [Act.put, List.setIfInBounds_toArray, List.set_cons_zero, List.set_cons_succ]
            refine wpAnyH_take (i := 9) (oi := { dst := some 80, op := Op.move (Operand.tmp 79), type := 4, pos := "laws.go:358", after := #[{ on := 8, ground := Ground.data }, { on := 3, ground := Ground.chain }], guard := none }) (v := ?_) rfl (by kernel_rfl) (by kernel_rfl) (by kernel_rfl) (fun _ _ _ h => h) (Or.inl ⟨by rfl, ?_⟩) (by assumption) ?_
            rotate_left 1
            · intro w hSw
              (try dsimp only at hSw)
              first | (go_simp; done) | (go_simp; with_reducible rfl)
            try simp only [Act.put, List.setIfInBounds_toArray, List.set_cons_zero, List.set_cons_succ]
            refine wpAnyH_take (i := 10) (oi := { dst := some 81, op := Op.move (Operand.tmp 5), type := 3, pos := "laws.go:358", after := #[{ on := 9, ground := Ground.guard }], guard := some (9, true) }) (v := ?_) rfl (by kernel_rfl) (by kernel_rfl) (by kernel_rfl) (fun _ _ _ h => h) (Or.inl ⟨by rfl, ?_⟩) (by assumption) ?_
            rotate_left 1
            · intro w hSw
              (try dsimp only at hSw)
              first | (go_simp; done) | (go_simp; with_reducible rfl)
            try simp only [Act.put, List.setIfInBounds_toArray, List.set_cons_zero, List.set_cons_succ]
            refine wpAnyH_take (i := 11) (oi := { dst := some 82, op := Op.fieldAddr 26 (Operand.tmp 3) 1, type := 0, pos := "laws.go:358", after := #[{ on := 9, ground := Ground.guard }], guard := some (9, true) }) (v := ?_) rfl (by kernel_rfl) (by kernel_rfl) (by kernel_rfl) (fun _ _ _ h => h) (Or.inl ⟨by rfl, ?_⟩) (by assumption) ?_
            rotate_left 1
            · intro w hSw
              (try dsimp only at hSw)
              first | (go_simp; done) | (go_simp; with_reducible rfl)
            try simp only [Act.put, List.setIfInBounds_toArray, List.set_cons_zero, List.set_cons_succ]
            refine wpAnyH_take (i := 12) (oi := { dst := some 83, op := Op.load 3 (Operand.tmp 82), type := 3, pos := "laws.go:358", after := #[{ on := 11, ground := Ground.data }, { on := 9, ground := Ground.guard }], guard := some (9, true) }) (v := ?_) rfl (by kernel_rfl) (by kernel_rfl) (by kernel_rfl) (fun _ _ _ h => h) (Or.inl ⟨by rfl, ?_⟩) (by assumption) ?_
            rotate_left 1
            · intro w hSw
              (try dsimp only at hSw)
              first | (go_simp; done) | (go_simp; with_reducible rfl)
            try simp only [Act.put, List.setIfInBounds_toArray, List.set_cons_zero, List.set_cons_succ]
            refine wpAnyH_take (i := 13) (oi := { dst := some 84, op := Op.binOp BinOp.geq 3 (Operand.tmp 81) (Operand.tmp 83) 3, type := 4, pos := "laws.go:358", after := #[{ on := 10, ground := Ground.data }, { on := 12, ground := Ground.data }, { on := 9, ground := Ground.guard }], guard := some (9, true) }) (v := ?_) rfl (by kernel_rfl) (by kernel_rfl) (by kernel_rfl) (fun _ _ _ h => h) (Or.inl ⟨by rfl, ?_⟩) (by assumption) ?_
            rotate_left 1
            · intro w hSw
              (try dsimp only at hSw)
              first | (go_simp; done) | (go_simp; with_reducible rfl)
            try simp only [Act.put, List.setIfInBounds_toArray, List.set_cons_zero, List.set_cons_succ]
            refine wpAnyH_take (i := 14) (oi := { dst := some 85, op := Op.load 26 (Operand.tmp 3), type := 26, pos := "laws.go:358", after := #[{ on := 9, ground := Ground.guard }], guard := some (9, true) }) (v := ?_) rfl (by kernel_rfl) (by kernel_rfl) (by kernel_rfl) (fun _ _ _ h => h) (Or.inl ⟨by rfl, ?_⟩) (by assumption) ?_
            rotate_left 1
            · intro w hSw
              (try dsimp only at hSw)
              first | (go_simp; done) | (go_simp; with_reducible rfl)
            try simp only [Act.put, List.setIfInBounds_toArray, List.set_cons_zero, List.set_cons_succ]
            refine wpAnyH_take (i := 15) (oi := { dst := some 86, op := Op.move (Operand.tmp 4), type := 24, pos := "laws.go:358", after := #[{ on := 9, ground := Ground.guard }], guard := some (9, true) }) (v := ?_) rfl (by kernel_rfl) (by kernel_rfl) (by kernel_rfl) (fun _ _ _ h => h) (Or.inl ⟨by rfl, ?_⟩) (by assumption) ?_
            rotate_left 1
            · intro w hSw
              (try dsimp only at hSw)
              first | (go_simp; done) | (go_simp; with_reducible rfl)
            try simp only [Act.put, List.setIfInBounds_toArray, List.set_cons_zero, List.set_cons_succ]
            refine wpAnyH_ready (rs := [16]) (by kernel_rfl) (by simp) ?_
            refine AllReadyH.cons (o := { dst := some 87, op := Op.call { callee := Callee.value (Operand.func 16), args := #[Operand.tmp 85, Operand.tmp 86], argTypes := #[26, 24] }, type := 4, pos := "laws.go:358", after := #[{ on := 14, ground := Ground.data }, { on := 15, ground := Ground.data }, { on := 9, ground := Ground.chain }, { on := 9, ground := Ground.guard }], guard := some (9, true) }) rfl (fun K hK => ?_) AllReadyH.nil
            go_simp
            have KA := dUnhide K11 _ hb11
            refine (implHolds_any _ _ ds xs cop _ KA.2.1 KA.2.2.1 (dUnhide HDA) (dUnhide HXA) (by omega) (by omega) (by omega) (by omega)).mono ?_
            rintro e w12 ⟨⟨bb, rfl, hbb⟩, b12⟩
            have hb12 := belowThen hb11 b12
            obtain ⟨⟨p0, p1⟩, -⟩ := dUnhide K11 _ hb12
            have hv := dUnhide HD bb hbb
            clear b12 KA
            (try go_wp2_with fail)
            refine hK.out _ _ ?_ (fun hHeld => ?_)
            · go_keep
            clear hK K
            try simp only [Act.put, List.setIfInBounds_toArray, List.set_cons_zero, List.set_cons_succ]
            refine wpAnyH_take (i := 17) (oi := { dst := some 88, op := Op.binOp BinOp.eql 4 (Operand.tmp 84) (Operand.tmp 87) 4, type := 4, pos := "laws.go:358", after := #[{ on := 13, ground := Ground.data }, { on := 16, ground := Ground.data }, { on := 9, ground := Ground.guard }], guard := some (9, true) }) (v := ?_) rfl (by kernel_rfl) (by kernel_rfl) (by kernel_rfl) (fun _ _ _ h => h) (Or.inl ⟨by rfl, ?_⟩) (by assumption) ?_
            rotate_left 1
            · intro w hSw
              (try dsimp only at hSw)
              first | (go_simp; done) | (go_simp; with_reducible rfl)
            try simp only [Act.put, List.setIfInBounds_toArray, List.set_cons_zero, List.set_cons_succ]
            refine wpAnyH_take (i := 18) (oi := { dst := some 89, op := Op.pick (Operand.tmp 80) (Operand.tmp 88) (Operand.const (Value.bool false)), type := 4, pos := "laws.go:358", after := #[{ on := 9, ground := Ground.data }, { on := 17, ground := Ground.data }], guard := none }) (v := ?_) rfl (by kernel_rfl) (by kernel_rfl) (by kernel_rfl) (fun _ _ _ h => h) (Or.inl ⟨by rfl, ?_⟩) (by assumption) ?_
            rotate_left 1
            · intro w hSw
              (try dsimp only at hSw)
              first | (go_simp; done) | (go_simp; with_reducible rfl)
            try simp only [Act.put, List.setIfInBounds_toArray, List.set_cons_zero, List.set_cons_succ]
            refine wpAnyH_take (i := 19) (oi := { dst := some 90, op := Op.move (Operand.tmp 89), type := 4, pos := "laws.go:358", after := #[{ on := 18, ground := Ground.data }, { on := 16, ground := Ground.chain }], guard := none }) (v := ?_) rfl (by kernel_rfl) (by kernel_rfl) (by kernel_rfl) (fun _ _ _ h => h) (Or.inl ⟨by rfl, ?_⟩) (by assumption) ?_
            rotate_left 1
            · intro w hSw
              (try dsimp only at hSw)
              first | (go_simp; done) | (go_simp; with_reducible rfl)
            try simp only [Act.put, List.setIfInBounds_toArray, List.set_cons_zero, List.set_cons_succ]
            refine wpAnyH_take (i := 20) (oi := { dst := some 91, op := Op.load 26 (Operand.tmp 3), type := 26, pos := "laws.go:358", after := #[{ on := 19, ground := Ground.guard }], guard := some (19, true) }) (v := ?_) rfl (by kernel_rfl) (by kernel_rfl) (by kernel_rfl) (fun _ _ _ h => h) (Or.inl ⟨by rfl, ?_⟩) (by assumption) ?_
            rotate_left 1
            · intro w hSw
              (try dsimp only at hSw)
              first | (go_simp; done) | (go_simp; with_reducible rfl)
            try simp only [Act.put, List.setIfInBounds_toArray, List.set_cons_zero, List.set_cons_succ]
            refine wpAnyH_ready (rs := [21]) (by kernel_rfl) (by simp) ?_
            refine AllReadyH.cons (o := { dst := some 92, op := Op.call { callee := Callee.value (Operand.func 29), args := #[Operand.tmp 91], argTypes := #[26] }, type := 4, pos := "laws.go:358", after := #[{ on := 20, ground := Ground.data }, { on := 19, ground := Ground.chain }, { on := 19, ground := Ground.guard }], guard := some (19, true) }) rfl (fun K hK => ?_) AllReadyH.nil
            go_simp
            have KA := dUnhide K11 _ hb12
            refine (implCfg_any _ ds cop _ KA.2.1 (dUnhide HDA) (by omega) (by omega) (by omega)).mono ?_
            rintro e w13 ⟨h13, b13⟩
            obtain rfl := h13.of_yes (dUnhide hcfg)
            have hb13 := belowThen hb12 b13
            obtain ⟨⟨s0, s1⟩, -⟩ := dUnhide K11 _ hb13
            clear b13 KA h13
            (try go_wp2_with fail)
            refine hK.out _ _ ?_ (fun hHeld => ?_)
            · go_keep
            clear hK K
            try simp only [Act.put, List.setIfInBounds_toArray, List.set_cons_zero, List.set_cons_succ]
            refine wpAnyH_take (i := 22) (oi := { dst := some 93, op := Op.pick (Operand.tmp 90) (Operand.tmp 92) (Operand.const (Value.bool false)), type := 4, pos := "laws.go:358", after := #[{ on := 19, ground := Ground.data }, { on := 21, ground := Ground.data }], guard := none }) (v := ?_) rfl (by kernel_rfl) (by kernel_rfl) (by kernel_rfl) (fun _ _ _ h => h) (Or.inl ⟨by rfl, ?_⟩) (by assumption) ?_
            rotate_left 1
            · intro w hSw
              (try dsimp only at hSw)
              first | (go_simp; done) | (go_simp; with_reducible rfl)
            try simp only [Act.put, List.setIfInBounds_toArray, List.set_cons_zero, List.set_cons_succ]
            refine wpAnyH_take (i := 23) (oi := { dst := some 2, op := Op.assign (Operand.tmp 93), type := 4, pos := "laws.go:358", after := #[{ on := 22, ground := Ground.data }, { on := 21, ground := Ground.chain }, { on := 0, ground := Ground.phase }, { on := 1, ground := Ground.phase }, { on := 2, ground := Ground.phase }, { on := 3, ground := Ground.phase }, { on := 4, ground := Ground.phase }, { on := 5, ground := Ground.phase }, { on := 6, ground := Ground.phase }, { on := 7, ground := Ground.phase }, { on := 8, ground := Ground.phase }, { on := 9, ground := Ground.phase }, { on := 10, ground := Ground.phase }, { on := 11, ground := Ground.phase }, { on := 12, ground := Ground.phase }, { on := 13, ground := Ground.phase }, { on := 14, ground := Ground.phase }, { on := 15, ground := Ground.phase }, { on := 16, ground := Ground.phase }, { on := 17, ground := Ground.phase }, { on := 18, ground := Ground.phase }, { on := 19, ground := Ground.phase }, { on := 20, ground := Ground.phase }, { on := 21, ground := Ground.phase }, { on := 22, ground := Ground.phase }], guard := none }) (v := ?_) rfl (by kernel_rfl) (by kernel_rfl) (by kernel_rfl) (fun _ _ _ h => h) (Or.inl ⟨by rfl, ?_⟩) (by assumption) ?_
            rotate_left 1
            · intro w hSw
              (try dsimp only at hSw)
              first | (go_simp; done) | (go_simp; with_reducible rfl)
            try simp only [Act.put, List.setIfInBounds_toArray, List.set_cons_zero, List.set_cons_succ]
            refine wpAnyH_done (by kernel_rfl) ?_ _
            refine NoPanic.normal ?_
            obtain ⟨-, -, -, -, Be⟩ := dUnhide K11 _ hb13
            go_wp2
            go_ret
            exact ⟨rfl, Be⟩
        · have hd : decide (N ≤ xs.length) = true := decide_eq_true hsl
          have hd2 : decide ((N : Int) ≤ (xs.length : Int)) = true := decide_eq_true (by omega)
          clear hbl
          go_wp2_with fail
          go_region_held3 (fun W => W.cell? ⟨bx, 0, none⟩ = some (.slice sa ds.length scap) ∧ W.cell? ⟨bx, 1, none⟩ = some (.int .i64 cop)) (go_keep)
            (first
              | (go_at_call 16; have KA := dUnhide K10 _ hb10; refine (implHolds_any _ _ ds xs cop _ KA.2.1 KA.2.2.1 (dUnhide HDA) (dUnhide HXA) (by omega) (by omega) (by omega) (by omega)).mono ?_; rintro e w11 ⟨⟨bb, rfl, hbb⟩, b11⟩; have hb11 := belowThen hb10 b11; obtain ⟨⟨p0, p1⟩, -⟩ := dUnhide K10 _ hb11; have hv := dUnhide HD bb hbb; clear b11 KA))
          obtain ⟨-, -, -, -, Be⟩ := dUnhide K10 _ hb11
          go_wp2
          go_ret
          exact ⟨rfl, Be⟩
  · refine (implSpan_no _ _ ds xs cop w2 m1 m2 hda hxa (by omega) (by omega) (by omega) (by omega) hn).mono ?_
    rintro e w3 ⟨rfl, b3⟩
    have hb3 := belowThen hb2 b3
    clear m1 m2 b3 hb2
    obtain ⟨⟨k0, k1⟩, m1, m2, -⟩ := dUnhide K w3 hb3
    have C4 := dHide (specSpan_no _ _ ds xs cop w3 m1 m2 hn)
    clear m1 m2
    go_wp2_with fail
    refine (dUnhide C4).mono ?_
    rintro e w4 ⟨rfl, b4⟩
    have hb4 := belowThen hb3 b4
    clear C4 b4 hb3 k0 k1
    obtain ⟨⟨k0, k1⟩, m1, m2, -⟩ := dUnhide K w4 hb4
    have C5 := dHide (implNodes_any _ _ ds xs cop w4 m1 m2 hda hxa (by omega) (by omega) (by omega) (by omega))
    clear m1 m2 hda hxa
    go_wp2_with fail
    refine (dUnhide C5).mono ?_
    rintro e w5 ⟨h5, b5⟩
    obtain rfl := h5.of_no hn
    have hb5 := belowThen hb4 b5
    obtain ⟨-, -, -, B5⟩ := dUnhide K w5 hb5
    clear C5 b5 hb4 k0 k1 h5 K hn
    go_wp2
    go_ret
    exact ⟨rfl, B5⟩
end Go.Proofs.Ytgedaaknkhkegaa
