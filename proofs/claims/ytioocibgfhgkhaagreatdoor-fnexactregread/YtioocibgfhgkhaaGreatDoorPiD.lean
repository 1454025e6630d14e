/- Records as bytes: impl's adders of eras and of their record (printed by tools/mkpi.py). -/
import Derived.Test.YtioocibgfhgkhaaGreatDoorHi1
import Derived.Test.YtioocibgfhgkhaaGreatDoorPkJ
import Derived.Deep.RegionHeld3
import Derived.Deep.DeepCutAuto
namespace Go.Proofs.YtioocibgfhgkhaaGreatDoor
open Go.ChangeShapes Go.WideShapes Go.ChangeAt Go.RowKit
set_option linter.unusedVariables false
set_option linter.unusedSimpArgs false
set_option maxRecDepth 100000

set_option maxHeartbeats 4000000 in
theorem addEra_x (B : Nat) (w0 : World) (b : Value) (bs : List UInt8) (na : Option Addr) (nc : Nat) (ns : List Int) (cl : Bool) (n2 : Nat) (h0 : natI ns) (hnl : ns.length ≤ 1048576) (h2 : n2 ≤ 9223372036854775807) (HV : ∀ W, Below B w0 W → Ns W (.slice na ns.length nc) ns) (hbs : bs.length ≤ 1000000000) (w : World) (hb0 : Below B w0 w) (hown0 : OwnX w B b bs) (hB : B ≤ w.heap.size) :
    Calls Tryz.prog 75 #[b, .agg #[.slice na ns.length nc, .bool cl, .int .i64 (n2 : Int)]] w fun e w' => ∃ v, e = .returned v ∧ OwnX w' B v (bs ++ ((lstB ns ++ flgB cl) ++ numB n2)) ∧ Onto w w' b v := by
  have l0 := lstB_len ns
  have l1 := flgB_len cl
  have HV := dHide HV
  have X0 := Bx.new w [.slice na ns.length nc, .bool cl, .int .i64 (n2 : Int)] 56
  have O0 := hown0.alloc (.cells #[.slice na ns.length nc, .bool cl, .int .i64 (n2 : Int)] 56)
  have T0 := (Onto.refl w b).alloc (.cells #[.slice na ns.length nc, .bool cl, .int .i64 (n2 : Int)] 56)
  have HZ := dHide fun (W : World) (v : Value) (h : Onto w W b v) => h.at hown0 hb0 hB
  have Z0 := dUnhide HZ _ _ T0
  have ES : Hid (bs ++ ((lstB ns ++ flgB cl) ++ numB n2) = (((bs ++ lstB ns) ++ flgB cl) ++ numB n2)) := by simp only [Hid, List.append_assoc]
  have NB : b.ownBlock ≠ some w.heap.size := fun e => by have := (hown0.lt _ e).2; omega
  have NB := dHide NB
  clear hown0 hb0
  go_enter Tryz.func75, Tryz.ntmps75
  have k0 := X0 0 _ rfl
  go_wp2_with fail
  generalize w.alloc (.cells #[.slice na ns.length nc, .bool cl, .int .i64 (n2 : Int)] 56) = wb at *
  have U0 := Onto.refl wb b
  have C := addListI_x B w0 b bs (.slice na ns.length nc) ns h0 (by omega) (by first | omega | (simp only [List.length_append]; omega)) (dUnhide HV) wb Z0.1 O0 Z0.2
  refine C.mono ?_
  rintro e w1 ⟨v1, rfl, O1, t1⟩
  have U1 := U0.trans t1
  have Z1 := dUnhide HZ _ _ (T0.trans U1)
  clear C Z0 O0 t1 U0 k0
  have k1 := (X0.grown U1.1 (dUnhide NB)) 1 _ rfl
  have C := addFlag_x B v1 (bs ++ lstB ns) cl w1 O1 (by first | omega | (simp only [List.length_append]; omega)) Z1.2
  go_wp2_with fail
  refine C.mono ?_
  rintro e w2 ⟨v2, rfl, O2, t2⟩
  have U2 := U1.trans t2
  have Z2 := dUnhide HZ _ _ (T0.trans U2)
  clear C Z1 O1 t2 U1 k1
  have k2 := (X0.grown U2.1 (dUnhide NB)) 2 _ rfl
  have C := addNum_x B v2 ((bs ++ lstB ns) ++ flgB cl) n2 (by omega) w2 O2 (by first | omega | (simp only [List.length_append]; omega)) Z2.2
  go_wp2_with fail
  refine C.mono ?_
  rintro e w3 ⟨v3, rfl, O3, t3⟩
  have U3 := U2.trans t3
  have Z3 := dUnhide HZ _ _ (T0.trans U3)
  clear C Z2 O2 t3 U2 k2
  have F := dHide (And.intro O3 (T0.trans U3))
  clear O3 U3 T0 X0 HZ NB Z3
  go_wp2
  go_ret
  refine ⟨_, rfl, ?_⟩
  rw [dUnhide ES]
  exact dUnhide F
set_option maxHeartbeats 4000000 in
theorem addListEra_x (B : Nat) (w0 : World) (b : Value) (bs : List UInt8) (a : Option Addr) (cap : Nat) (rs : List (Nst Er)) (hl : rs.length ≤ 1048576) (hfl : ∀ k, (((rs.map Nst.m).take k).flatMap erB).length ≤ 100000000) (hbs : bs.length ≤ 800000000) (HR : ∀ W, Below B w0 W → Rw 3 erCl W (.slice a rs.length cap) rs)
    (HE : ∀ k (hk : k < rs.length) u xs W, Below B w0 W → OwnX W B u xs → xs.length ≤ 1000000000 → B ≤ W.heap.size → Calls Tryz.prog 75 #[u, .agg #[.slice rs[k].a rs[k].m.nodes.length rs[k].c, .bool rs[k].m.closed, .int .i64 rs[k].m.last]] W fun e w' => ∃ v, e = .returned v ∧ OwnX w' B v (xs ++ erB (Nst.m rs[k])) ∧ Onto W w' u v)
    (w : World) (hb0 : Below B w0 w) (hown0 : OwnX w B b bs) (hB : B ≤ w.heap.size) :
    Calls Tryz.prog 74 #[b, .slice a rs.length cap, .func (.func 75) #[] #[]] w fun e w' => ∃ v, e = .returned v ∧ OwnX w' B v (bs ++ (numB rs.length ++ (rs.map Nst.m).flatMap erB)) ∧ Onto w w' b v := by
  have HR := dHide HR
  have HE := dHide HE
  have HF := dHide hfl
  have C := dHide (addNum_x B b bs rs.length (by omega) w hown0 (by omega) hB)
  have n9 := numB_len rs.length
  have ES : Hid (bs ++ (numB rs.length ++ (rs.map Nst.m).flatMap erB) = (bs ++ numB rs.length) ++ (rs.map Nst.m).flatMap erB) := by simp only [Hid, List.append_assoc]
  have hhd : (bs ++ numB rs.length).length ≤ 800000009 := by rw [List.length_append]; omega
  generalize bs ++ numB rs.length = hd at *
  clear hfl
  go_enter Tryz.func74, Tryz.ntmps74
  go_wp2_with fail
  refine (dUnhide C).mono ?_
  rintro e w1 ⟨v1, rfl, O1, T1⟩
  have B1 := T1.at hown0 hb0 hB
  clear C n9 hown0 hb0
  go_wp2
  go_loopw [0, 15] (fun o xv wr => ∃ k : Nat, xv = .int .i64 (k : Int) ∧ k ≤ rs.length ∧ OwnX wr B o (hd ++ ((rs.map Nst.m).take k).flatMap erB) ∧ Onto w wr b o ∧ Below B w0 wr ∧ B ≤ wr.heap.size) (fun _ xv _ => rs.length - (intOf xv).toNat)
  case atStart => exact ⟨0, rfl, Nat.zero_le _, by simpa using O1, T1, B1.1, B1.2⟩
  case round =>
    clear O1 T1 B1
    obtain ⟨k, rfl, hk, ho, ht, hb, hbz⟩ := hrel
    by_cases hlt : (k : Int) < (rs.length : Int)
    · have hkl : k < rs.length := by omega
      obtain ⟨bk, off, rfl, hc⟩ := (dUnhide HR wr hb).era hkl
      obtain ⟨c0, c1, c2⟩ := hc k hkl
      have hS : ((rs.map Nst.m).take (k + 1)).flatMap erB = ((rs.map Nst.m).take k).flatMap erB ++ erB (Nst.m rs[k]) := by
        have hkm : k < (rs.map Nst.m).length := by simpa using hkl
        rw [List.take_succ_eq_append_getElem hkm, List.flatMap_append, List.flatMap_cons, List.flatMap_nil, List.append_nil, List.getElem_map]
      have hfk := dUnhide HF k
      have AE := dHide (dUnhide HE k hkl)
      generalize rs[k] = y at *
      generalize ((rs.map Nst.m).take k).flatMap erB = FK at *
      obtain ⟨ya, yc, ⟨ns, cl, la⟩⟩ := y
      simp only [Sv] at *
      have bA : Below wr.heap.size wr (wr.alloc (.cells #[.slice ya ns.length yc, .bool cl, .int .i64 la] 56)) := (Below.refl _ _).alloc (Nat.le_refl _) _
      have FIN : Hid (∀ v5 w5, OwnX w5 B v5 ((hd ++ FK) ++ erB ⟨ns, cl, la⟩) → Onto (wr.alloc (.cells #[.slice ya ns.length yc, .bool cl, .int .i64 la] 56)) w5 u0 v5 → OwnX w5 B v5 (hd ++ ((rs.map Nst.m).take (k + 1)).flatMap erB) ∧ Onto w w5 b v5 ∧ Below B w0 w5 ∧ B ≤ w5.heap.size) := fun v5 w5 h1 h2 => by
        have q1 := ht.trans (((Onto.refl wr u0).alloc (.cells #[.slice ya ns.length yc, .bool cl, .int .i64 la] 56)).trans h2)
        have q2 := ((Onto.refl wr u0).alloc (.cells #[.slice ya ns.length yc, .bool cl, .int .i64 la] 56)).trans h2
        exact ⟨by rw [hS, ← List.append_assoc]; exact h1, q1, q2.at ho hb hbz⟩
      have AE := dHide (dUnhide AE u0 (hd ++ FK) (wr.alloc (.cells #[.slice ya ns.length yc, .bool cl, .int .i64 la] 56)) (hb.trans (bA.mono hbz)) (ho.alloc _) (by rw [List.length_append]; omega) (Nat.le_trans hbz bA.size))
      clear hc ho ht hS hb bA hfk
      go_wp2_with fail
      refine (dUnhide AE).mono ?_
      rintro e w5 ⟨v5, rfl, O5, T5⟩
      have F := dHide (dUnhide FIN v5 w5 O5 T5)
      clear O5 T5 FIN AE c0 c1 c2
      go_wp2
      go_roundw
      case rel => exact ⟨k + 1, by go_num, by omega, (dUnhide F).1, (dUnhide F).2.1, (dUnhide F).2.2.1, (dUnhide F).2.2.2⟩
      case measure => simp [intOf]; omega
    · have e1 : (rs.map Nst.m).take k = rs.map Nst.m := List.take_of_length_le (by rw [List.length_map]; omega)
      rw [e1] at ho
      have Q := dHide (And.intro ho ht)
      clear e1 ho ht hb
      go_wp2
      go_ret
      refine ⟨_, rfl, ?_⟩
      rw [dUnhide ES]
      exact dUnhide Q
set_option maxHeartbeats 4000000 in
theorem addRegister_x (B : Nat) (w0 : World) (b : Value) (bs : List UInt8) (n0 : Nat) (h0 : n0 ≤ 9223372036854775807) (a : Option Addr) (cap : Nat) (rs : List (Nst Er)) (hl : rs.length ≤ 1048576) (hfl : ∀ k, (((rs.map Nst.m).take k).flatMap erB).length ≤ 100000000) (HR : ∀ W, Below B w0 W → Rw 3 erCl W (.slice a rs.length cap) rs) (HE : ∀ k (hk : k < rs.length) u xs W, Below B w0 W → OwnX W B u xs → xs.length ≤ 1000000000 → B ≤ W.heap.size → Calls Tryz.prog 75 #[u, .agg #[.slice rs[k].a rs[k].m.nodes.length rs[k].c, .bool rs[k].m.closed, .int .i64 rs[k].m.last]] W fun e w' => ∃ v, e = .returned v ∧ OwnX w' B v (xs ++ erB (Nst.m rs[k])) ∧ Onto W w' u v) (hbs : bs.length ≤ 700000000) (w : World) (hb0 : Below B w0 w) (hown0 : OwnX w B b bs) (hB : B ≤ w.heap.size) :
    Calls Tryz.prog 50 #[b, .agg #[.slice a rs.length cap, .int .i64 (n0 : Int)]] w fun e w' => ∃ v, e = .returned v ∧ OwnX w' B v (bs ++ (numB n0 ++ (numB rs.length ++ (rs.map Nst.m).flatMap erB))) ∧ Onto w w' b v := by
  have HF := dHide hfl
  have HR := dHide HR
  have HE := dHide HE
  clear hfl
  have l0 := numB_len n0
  have X0 := Bx.new w [.slice a rs.length cap, .int .i64 (n0 : Int)] 29
  have O0 := hown0.alloc (.cells #[.slice a rs.length cap, .int .i64 (n0 : Int)] 29)
  have T0 := (Onto.refl w b).alloc (.cells #[.slice a rs.length cap, .int .i64 (n0 : Int)] 29)
  have HZ := dHide fun (W : World) (v : Value) (h : Onto w W b v) => h.at hown0 hb0 hB
  have Z0 := dUnhide HZ _ _ T0
  have ES : Hid (bs ++ (numB n0 ++ (numB rs.length ++ (rs.map Nst.m).flatMap erB)) = ((bs ++ numB n0) ++ (numB rs.length ++ (rs.map Nst.m).flatMap erB))) := by simp only [Hid, List.append_assoc]
  have NB : b.ownBlock ≠ some w.heap.size := fun e => by have := (hown0.lt _ e).2; omega
  have NB := dHide NB
  clear hown0 hb0
  go_enter Tryz.func50, Tryz.ntmps50
  have k0 := X0 1 _ rfl
  go_wp2_with fail
  generalize w.alloc (.cells #[.slice a rs.length cap, .int .i64 (n0 : Int)] 29) = wb at *
  have U0 := Onto.refl wb b
  have C := addNum_x B b bs n0 (by omega) wb O0 (by first | omega | (simp only [List.length_append]; omega)) Z0.2
  refine C.mono ?_
  rintro e w1 ⟨v1, rfl, O1, t1⟩
  have U1 := U0.trans t1
  have Z1 := dUnhide HZ _ _ (T0.trans U1)
  clear C Z0 O0 t1 U0 k0
  have k1 := (X0.grown U1.1 (dUnhide NB)) 0 _ rfl
  have C := addListEra_x B w0 v1 (bs ++ numB n0) a cap rs hl (dUnhide HF) (by first | omega | (simp only [List.length_append]; omega)) (dUnhide HR) (dUnhide HE) w1 Z1.1 O1 Z1.2
  go_wp2_with fail
  refine C.mono ?_
  rintro e w2 ⟨v2, rfl, O2, t2⟩
  have U2 := U1.trans t2
  have Z2 := dUnhide HZ _ _ (T0.trans U2)
  clear C Z1 O1 t2 U1 k1
  have F := dHide (And.intro O2 (T0.trans U2))
  clear O2 U2 T0 X0 HZ NB Z2
  go_wp2
  go_ret
  refine ⟨_, rfl, ?_⟩
  rw [dUnhide ES]
  exact dUnhide F
end Go.Proofs.YtioocibgfhgkhaaGreatDoor
