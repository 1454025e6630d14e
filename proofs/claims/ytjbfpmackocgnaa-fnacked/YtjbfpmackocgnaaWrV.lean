/- impl: the window is told. -/
import Derived.Test.YtjbfpmackocgnaaWrU
import Derived.Test.YtjbfpmackocgnaaWrO
namespace Go.Proofs.Ytjbfpmackocgnaa
open Go.ChangeShapes Go.WideShapes Go.ChangeAt Go.RowKit
set_option linter.unusedVariables false
set_option linter.unusedSimpArgs false
set_option maxRecDepth 100000

theorem nodes_short {lo hi : Int} : ∀ xs : List Int, xs.Pairwise (· < ·) → (∀ x ∈ xs, lo ≤ x ∧ x ≤ hi) → (xs.length : Int) ≤ max 0 (hi - lo + 1)
  | [], _, _ => by simp; omega
  | a :: l, h, hb => by
    rw [List.pairwise_cons] at h
    have h1 := hb a (by simp)
    have ih := nodes_short (lo := a + 1) (hi := hi) l h.2 (fun x hx => ⟨by have := h.1 x hx; omega, (hb x (by simp [hx])).2⟩)
    simp only [List.length_cons]
    omega
theorem nodesP_one {ds : List Int} {cop x : Int} (h : cfgP ds cop) : nodesP ds cop [x] ↔ (0 ≤ x ∧ x ≤ (ds.length : Int) - 1) := by
  unfold nodesP
  rw [ascP_iff]
  simp [h]
/-- The words of a writing when one of them was told of. -/
theorem Wn.told {W w5 : World} {lo b g c k : Nat} {ep cop : Int} {cs : Value} {ms : List Wd} {rs : List (Nst Wd)} {ya : Option Addr} {yc : Nat} {yd : ByteArray} {yn ns : List Int} {yb b5 : Bool} {pa : Option Addr} {pc : Nat} (hX : BxZ W lo b [.int .i64 ep, cs, .int .i64 cop, .slice (some ⟨g, 0, none⟩) rs.length c]) (hk : k < rs.length) (hy : rs[k] = ⟨ya, yc, yd, yn, yb⟩) (m1 : rs.map Nst.m = ms) (n6 : touch (.slice (some ⟨g, 0, none⟩) rs.length c) ≠ some b) (n7 : ∀ p ∈ rs, p.m.acks = [] ∨ blockOf (Sv Wd.acks p) ≠ b)
    (hP : WPs w5 lo (.slice (some ⟨g, 0, none⟩) rs.length c) (rs.set k ⟨pa, pc, ⟨yd, ns, b5⟩⟩)) (hbl : (yn ≠ [] ∧ blockOf (.slice pa ns.length pc) = blockOf (.slice ya yn.length yc)) ∨ W.heap.size ≤ blockOf (.slice pa ns.length pc)) (hbe : w5.heap[b]? = W.heap[b]?) : Wn w5 lo b ep cs cop (.slice (some ⟨g, 0, none⟩) rs.length c) (ms.set k ⟨yd, ns, b5⟩) := by
  have hlt := hX.lt
  refine ⟨⟨hX.1, fun i v hv => ⟨(World.cell?_of_block (a := ⟨b, i, none⟩) hbe).trans (hX.2 i v hv).1, (World.frozen?_of_block (a := ⟨b, i, none⟩) hbe).trans (hX.2 i v hv).2⟩⟩, _, ?_, hP.1, hP.2.1, hP.2.2.1, hP.2.2.2, n6, fun p hp => ?_⟩
  · rw [List.map_set, m1]
  · obtain ⟨i, hi, rfl⟩ := List.mem_iff_getElem.1 hp
    have hi2 : i < rs.length := by rw [List.length_set] at hi; exact hi
    by_cases e : i = k
    · subst e
      rw [List.getElem_set_self]
      right
      have e9 : blockOf (Sv Wd.acks (⟨pa, pc, ⟨yd, ns, b5⟩⟩ : Nst Wd)) = blockOf (.slice pa ns.length pc) := rfl
      rw [e9]
      rcases hbl with ⟨h1, h2⟩ | h
      · have q := n7 _ (List.getElem_mem hi2)
        rw [hy] at q
        rw [h2]
        exact q.resolve_left h1
      · omega
    · rw [List.getElem_set_ne (Ne.symm e)]
      exact n7 _ (List.getElem_mem hi2)
set_option maxHeartbeats 8000000 in
theorem winAck_any (W : World) (lo b : Nat) (ep cop : Int) (ca : Option Addr) (cc : Nat) (u : Value) (ds : List Int) (ms : List Wd) (off x : Int) (hW : WnR W lo b ep (.slice ca ds.length cc) cop u ms) (hcf : cfgP ds cop) (hnd : ∀ e ∈ ms, nodesP ds cop e.acks) (hl : ms.length ≤ 60) (hlo : lo ≤ W.heap.size) (hN : ∀ W', Below lo W W' → Ns W' (.slice ca ds.length cc) ds) (had : allInt ds) (hx : okInt x) :
    Calls Try.prog 67 #[.pointer (some ⟨b, 1, none⟩), .int .i64 off, .int .i64 x] W fun e w' => ((¬ ackP ds ms off x ∧ e = .returned (.bool false) ∧ Wn w' lo b ep (.slice ca ds.length cc) cop u ms) ∨ (ackP ds ms off x ∧ e = .returned (.bool true) ∧ Wn w' lo b ep (.slice ca ds.length cc) cop u (ms.set (off.toNat - 1) (ackW ds cop x (atW ms (off.toNat - 1)))))) ∧ Below lo W w' := by
  have ba : ∀ (w : World) o, Below w.heap.size w (w.alloc o) := fun w o => (Below.refl _ _).alloc (Nat.le_refl _) o
  have t1 := taOpen_nil
  have t2 := taOpen_done
  have t3 := taOpen_yes
  have HW := dHide hW.wn
  obtain ⟨X0, rs, m1, n2, n3, n4, n5, n6, n7⟩ := hW
  have el : rs.length = ms.length := by rw [← m1, List.length_map]
  obtain ⟨a, c, rfl⟩ : ∃ a c, u = .slice a rs.length c := ApR.slice elemW n2
  have c3 := (X0.2 3 _ rfl).1
  have hcfl := hcf.1
  have hcop := hcf.2.1
  by_cases hin : 1 ≤ off ∧ off ≤ (ms.length : Int)
  · obtain ⟨k, rfl⟩ : ∃ k : Nat, off = (k : Int) + 1 := ⟨off.toNat - 1, by omega⟩
    have hk : k < rs.length := by omega
    have ek : ((k : Int) + 1).toNat - 1 = k := by omega
    have hP0 : WPs W lo (.slice a rs.length c) rs := ⟨n2, fun p hp => (n3 p hp).own, n4, n5⟩
    obtain ⟨g, cap', eg, hcg, hgb, hgl, htg⟩ := hP0.head (by omega)
    simp only [Value.slice.injEq, true_and] at eg
    obtain ⟨rfl, rfl⟩ := eg
    have hgne : g ≠ b := fun e => n6 (by rw [htg, e])
    obtain ⟨⟨-, -, c2⟩, -, -⟩ := hP0.cells hk
    obtain ⟨⟨ya, yc, yd, yn, yb⟩, hy⟩ : ∃ y, rs[k] = y := ⟨_, rfl⟩
    have hR := n3 _ (List.getElem_mem hk)
    have hb7 := n7 _ (List.getElem_mem hk)
    rw [hy] at c2 hR hb7
    unfold Sv at hR hb7
    simp only at c2 hR hb7
    have hkm : k < ms.length := by omega
    have em : ms[k] = ⟨yd, yn, yb⟩ := by
      have : ms[k] = rs[k].m := by subst m1; simp
      rw [this, hy]
    have ea : atW ms k = ⟨yd, yn, yb⟩ := by unfold atW; rw [getD_lt _ hkm, em]
    have hnk := hnd _ (List.getElem_mem hkm)
    rw [em] at hnk
    simp only at hnk
    cases yb with
    | true =>
      have HNO : Hid (¬ ackP ds ms ((k : Int) + 1) x) := fun h => by have := h.2.2; rw [ek, ea] at this; cases this
      have CA := dHide (winAt_done b 1 g 0 rs.length c k W c3 hk (by omega) (by rw [Nat.zero_add]; exact c2))
      clear hP0 n2 n3 n4 n5 n7 c2 hR hN hnd X0 em ea hy hnk m1
      go_enter Try.func67, Try.ntmps67
      go_wp2_with fail
      refine (dUnhide CA).mono ?_
      rintro e w1 ⟨rfl, rfl⟩
      clear CA
      go_wp2
      go_ret
      exact ⟨.inl ⟨dUnhide HNO, rfl, (dUnhide HW).below (ba _ _)⟩, (ba _ _).mono hlo⟩
    | false =>
      have CA := winAt_open b 1 g 0 rs.length c k W c3 hk (by omega) (by rw [Nat.zero_add]; exact c2)
      rw [Nat.zero_add] at CA
      replace CA := dHide CA
      have bA := ba W (.cells #[.pointer (some ⟨g, k * 3, none⟩)] 148)
      have bB := ba (W.alloc (.cells #[.pointer (some ⟨g, k * 3, none⟩)] 148)) (.cells #[.int .i64 x] 3)
      have bAB := belowThen bA bB
      have hblt := X0.lt
      have d1 := (X0.below bA).2 1 _ rfl |>.1
      have d2 := (X0.below bA).2 2 _ rfl |>.1
      have hone : Ns ((W.alloc (.cells #[.pointer (some ⟨g, k * 3, none⟩)] 148)).alloc (.cells #[.int .i64 x] 3)) (.slice (some ⟨W.heap.size + 1, 0, none⟩) 1 1) [x] := by
        refine ⟨by simp, _, 1, rfl, by simp, .inr ⟨W.heap.size + 1, 0, rfl, fun i hi => ?_⟩⟩
        obtain rfl : i = 0 := by simp at hi; omega
        simp
      have CN := dHide (implNodes_any _ _ ds [x] cop _ (hN _ (bAB.mono hlo)) hone had (fun z hz => by simp at hz; subst hz; exact hx) (by omega) (by simp) (by omega) (by omega))
      have Z0 := dHide ((Bx.new W [.pointer (some ⟨g, k * 3, none⟩)] 148).below bB)
      have HX0 := dHide (X0.below bAB)
      have HP0 := dHide (hP0.below bAB)
      have HR0 := dHide (hR.below bAB)
      have hasc := (ascP_iff _ _ _).1 hnk.2
      have hlen := nodes_short _ hasc.1 hasc.2
      have CW : Hid (∀ V, Below W.heap.size W V → WPs V lo (.slice (some ⟨g, 0, none⟩) rs.length c) rs → RmN V lo (.slice ya yn.length yc) yn → _) := fun V hb hp hr =>
        wordAck_any V lo g rs.length c k rs x cop ds ca cc ya yc yd yn false hp hk hy hr (Nat.le_trans hlo hb.size) (fun W' hb' => hN W' ((hb.mono hlo).trans hb')) had (fun z hz => by have := hasc.2 z hz; omega) hx hasc.1 (by omega) (by omega) (by omega) (by omega)
      have YES : Hid (nodesP ds cop [x] → ackP ds ms ((k : Int) + 1) x) := fun h => ⟨hin, (nodesP_one hcf).1 h, by rw [ek, ea]⟩
      have NO : Hid (¬ nodesP ds cop [x] → ¬ ackP ds ms ((k : Int) + 1) x) := fun h h' => h ((nodesP_one hcf).2 h'.2.1)
      have hyb : yn = [] ∨ blockOf (.slice ya yn.length yc) < W.heap.size := hR.bs.lt
      have TOLD : Hid (∀ V w5 pa pc b5, BxZ V lo b [.int .i64 ep, .slice ca ds.length cc, .int .i64 cop, .slice (some ⟨g, 0, none⟩) rs.length c] → WPs w5 lo (.slice (some ⟨g, 0, none⟩) rs.length c) (rs.set k ⟨pa, pc, ⟨yd, putL x yn, b5⟩⟩) → ((yn ≠ [] ∧ blockOf (.slice pa (putL x yn).length pc) = blockOf (.slice ya yn.length yc)) ∨ V.heap.size ≤ blockOf (.slice pa (putL x yn).length pc)) → w5.heap[b]? = V.heap[b]? → (b5 = true ↔ holdsP ds cop (putL x yn)) → Wn w5 lo b ep (.slice ca ds.length cc) cop (.slice (some ⟨g, 0, none⟩) rs.length c) (ms.set (((k : Int) + 1).toNat - 1) (ackW ds cop x (atW ms (((k : Int) + 1).toNat - 1))))) := fun V w5 pa pc b5 hX hP hbl hbe hb5 => by
        rw [ek, ea, ackW_eq hb5]
        exact Wn.told hX hk hy m1 n6 n7 hP hbl hbe
      have hyb7 := hb7
      have hsz : Hid (((W.alloc (.cells #[.pointer (some ⟨g, k * 3, none⟩)] 148)).alloc (.cells #[.int .i64 x] 3)).heap.size = W.heap.size + 1 + 1) := by simp [Hid]
      clear hP0 n2 n3 n4 n5 n6 n7 c2 hR hN hnd X0 em ea hy hnk m1 hone hasc hlen hb7 had bA bB
      go_enter Try.func67, Try.ntmps67
      go_wp2_with fail
      refine (dUnhide CA).mono ?_
      rintro e w1 ⟨rfl, rfl⟩
      clear CA c3
      go_wp2_with fail
      generalize (w1.alloc (.cells #[.pointer (some ⟨g, k * 3, none⟩)] 148)).alloc (.cells #[.int .i64 x] 3) = w2 at *
      have hsz2 := dUnhide hsz
      refine (dUnhide CN).mono ?_
      rintro e w3 ⟨⟨b3, rfl, hb3⟩, bl3⟩
      clear CN d1 d2
      have B3 := belowThen bAB bl3
      have sz3 := bl3.size
      cases b3 with
      | false =>
        have HNO := dHide (dUnhide NO fun h => by have := hb3.2 h; cases this)
        clear hb3 CW Z0 HX0 HP0 HR0 TOLD YES NO
        go_wp2
        go_ret
        exact ⟨.inl ⟨dUnhide HNO, rfl, (dUnhide HW).below B3⟩, B3.mono hlo⟩
      | true =>
        have HYES := dHide (dUnhide YES (hb3.1 rfl))
        have bd : Below w3.heap.size w3 w3.drew := (Below.refl _ _).drew
        have X3 := dHide ((dUnhide HX0).below (belowThen bl3 bd))
        have CW3 := dHide (dUnhide CW w3.drew (belowThen B3 bd) ((dUnhide HP0).below (belowThen bl3 bd)) ((dUnhide HR0).below (belowThen bl3 bd)))
        have zz3 : w3.cell? ⟨w1.heap.size, 0, none⟩ = some (.pointer (some ⟨g, k * 3, none⟩)) := (dUnhide Z0).below bl3 0 _ rfl
        have e13 : w3.cell? ⟨b, 1, none⟩ = some (.slice ca ds.length cc) := ((dUnhide X3).2 1 _ rfl).1
        have e23 : w3.cell? ⟨b, 2, none⟩ = some (.int .i64 cop) := ((dUnhide X3).2 2 _ rfl).1
        have FRB : Hid (∀ w5 : World, (∀ j, j < w3.drew.heap.size → j ≠ g → (yn = [] ∨ j ≠ blockOf (.slice ya yn.length yc)) → w5.heap[j]? = w3.drew.heap[j]?) → w5.heap[b]? = w3.heap[b]? ∧ w5.heap[w1.heap.size]? = w3.heap[w1.heap.size]?) := fun w5 hf => by
          refine ⟨hf b (by show b < w3.heap.size; omega) (Ne.symm hgne) (hyb7.imp id Ne.symm), hf w1.heap.size (by show w1.heap.size < w3.heap.size; omega) (by omega) (hyb.imp id (fun h => by omega))⟩
        clear hb3 CW Z0 HX0 HP0 HR0 YES NO HW hyb7
        go_wp2_with fail
        go_region_held3 (fun V => V.cell? ⟨w1.heap.size, 0, none⟩ = some (.pointer (some ⟨g, k * 3, none⟩)) ∧ V.cell? ⟨b, 1, none⟩ = some (.slice ca ds.length cc) ∧ V.cell? ⟨b, 2, none⟩ = some (.int .i64 cop)) (first | exact ⟨zz5, e15, e25⟩ | exact ⟨zz3, e13, e23⟩ | go_keep)
          (first
            | (go_at_call 119; refine (dUnhide CW3).mono ?_; rintro e w5 ⟨rfl, pa, pc, b5, hb5, P5, bk5, B5, F5⟩; obtain ⟨fb5, fz5⟩ := dUnhide FRB w5 F5; have zz5 : w5.cell? ⟨w1.heap.size, 0, none⟩ = some (.pointer (some ⟨g, k * 3, none⟩)) := (World.cell?_of_block (a := ⟨w1.heap.size, 0, none⟩) fz5).trans zz3; have e15 : w5.cell? ⟨b, 1, none⟩ = some (.slice ca ds.length cc) := (World.cell?_of_block (a := ⟨b, 1, none⟩) fb5).trans e13; have e25 : w5.cell? ⟨b, 2, none⟩ = some (.int .i64 cop) := (World.cell?_of_block (a := ⟨b, 2, none⟩) fb5).trans e23; have T5 := dHide (dUnhide TOLD w3.drew w5 pa pc b5 (dUnhide X3) P5 bk5 fb5 hb5); have BB5 : Hid (Below lo w1 w5) := (B3.mono hlo).trans ⟨B5.os, B5.tape, B5.output, B5.size, B5.block⟩; clear P5 bk5 B5 F5 hb5))
        all_goals
          clear CW3 FRB TOLD X3
          go_wp2
          go_ret
          exact ⟨.inr ⟨dUnhide HYES, rfl, dUnhide T5⟩, dUnhide BB5⟩
  · have HNO : Hid (¬ ackP ds ms off x) := fun h => hin h.1
    have CA := dHide (winAt_no b 1 a rs.length c off W c3 (by rw [el]; exact hin))
    clear n2 n3 n4 n5 n7 hN hnd X0 m1
    go_enter Try.func67, Try.ntmps67
    go_wp2_with fail
    refine (dUnhide CA).mono ?_
    rintro e w1 ⟨rfl, rfl⟩
    clear CA
    go_wp2
    go_ret
    exact ⟨.inl ⟨dUnhide HNO, rfl, (dUnhide HW).below (ba _ _)⟩, (ba _ _).mono hlo⟩
end Go.Proofs.Ytjbfpmackocgnaa
