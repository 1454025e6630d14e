/- Records as bytes: impl's adders of events and of their record (printed by tools/mkpi.py). -/
import Derived.Test.YtioocibgfhgkhaaPiA
import Derived.Test.YtioocibgfhgkhaaPkH
import Derived.Deep.RegionHeld3
import Derived.Deep.DeepCutAuto
namespace Go.Proofs.Ytioocibgfhgkhaa
open Go.ChangeShapes Go.WideShapes Go.ChangeAt Go.RowKit
set_option linter.unusedVariables false
set_option linter.unusedSimpArgs false
set_option maxRecDepth 100000

set_option maxHeartbeats 4000000 in
theorem addEvent_x (B : Nat) (w0 : World) (b : Value) (bs : List UInt8) (n0 n1 : Nat) (d : ByteArray) (h0 : n0 ≤ 9223372036854775807) (h1 : n1 ≤ 9223372036854775807) (hd : d.size ≤ 1048576) (hbs : bs.length ≤ 1000000000) (w : World) (hb0 : Below B w0 w) (hown0 : OwnX w B b bs) (hB : B ≤ w.heap.size) :
    Calls Try.prog 126 #[b, .agg #[.int .i64 (n0 : Int), .int .i64 (n1 : Int), .string d]] w fun e w' => ∃ v, e = .returned v ∧ OwnX w' B v (bs ++ ((numB n0 ++ numB n1) ++ textB d.data.toList)) ∧ Onto w w' b v := by
  have l0 := numB_len n0
  have l1 := numB_len n1
  have X0 := Bx.new w [.int .i64 (n0 : Int), .int .i64 (n1 : Int), .string d] 116
  have O0 := hown0.alloc (.cells #[.int .i64 (n0 : Int), .int .i64 (n1 : Int), .string d] 116)
  have T0 := (Onto.refl w b).alloc (.cells #[.int .i64 (n0 : Int), .int .i64 (n1 : Int), .string d] 116)
  have HZ := dHide fun (W : World) (v : Value) (h : Onto w W b v) => h.at hown0 hb0 hB
  have Z0 := dUnhide HZ _ _ T0
  have ES : Hid (bs ++ ((numB n0 ++ numB n1) ++ textB d.data.toList) = (((bs ++ numB n0) ++ numB n1) ++ textB d.data.toList)) := by simp only [Hid, List.append_assoc]
  have NB : b.ownBlock ≠ some w.heap.size := fun e => by have := (hown0.lt _ e).2; omega
  have NB := dHide NB
  clear hown0 hb0
  go_enter Try.func126, Try.ntmps126
  have k0 := X0 0 _ rfl
  go_wp2_with fail
  generalize w.alloc (.cells #[.int .i64 (n0 : Int), .int .i64 (n1 : Int), .string d] 116) = wb at *
  have U0 := Onto.refl wb b
  have C := addNum_x B b bs n0 (by omega) wb O0 (by first | omega | (simp only [List.length_append]; omega)) Z0.2
  refine C.mono ?_
  rintro e w1 ⟨v1, rfl, O1, t1⟩
  have U1 := U0.trans t1
  have Z1 := dUnhide HZ _ _ (T0.trans U1)
  clear C Z0 O0 t1 U0 k0
  have k1 := (X0.grown U1.1 (dUnhide NB)) 1 _ rfl
  have C := addNum_x B v1 (bs ++ numB n0) n1 (by omega) w1 O1 (by first | omega | (simp only [List.length_append]; omega)) Z1.2
  go_wp2_with fail
  refine C.mono ?_
  rintro e w2 ⟨v2, rfl, O2, t2⟩
  have U2 := U1.trans t2
  have Z2 := dUnhide HZ _ _ (T0.trans U2)
  clear C Z1 O1 t2 U1 k1
  have k2 := (X0.grown U2.1 (dUnhide NB)) 2 _ rfl
  have C := addText_x B v2 ((bs ++ numB n0) ++ numB n1) d (by omega) (by first | omega | (simp only [List.length_append]; omega)) w2 O2 Z2.2
  go_wp2_with fail
  refine C.mono ?_
  rintro e w3 ⟨v3, rfl, O3, t3⟩
  have U3 := U2.trans t3
  have Z3 := dUnhide HZ _ _ (T0.trans U3)
  clear C Z2 O2 t3 U2 k2
  have F := dHide (And.intro O3 (T0.trans U3))
  clear O3 U3 T0 X0 HZ NB Z3
  go_wp2
  go_ret
  refine ⟨_, rfl, ?_⟩
  rw [dUnhide ES]
  exact dUnhide F
set_option maxHeartbeats 4000000 in
theorem addListEvent_x (B : Nat) (w0 : World) (b : Value) (bs : List UInt8) (a : Option Addr) (cap : Nat) (rs : List Ev) (hl : rs.length ≤ 1048576) (hfl : ∀ k, ((rs.take k).flatMap evB).length ≤ 100000000) (hbs : bs.length ≤ 800000000) (HR : ∀ W, Below B w0 W → Rw 3 Ev.cl W (.slice a rs.length cap) rs)
    (HE : ∀ k (hk : k < rs.length) u xs W, Below B w0 W → OwnX W B u xs → xs.length ≤ 1000000000 → B ≤ W.heap.size → Calls Try.prog 126 #[u, .agg #[.int .i64 rs[k].kind, .int .i64 rs[k].pl, .string rs[k].data]] W fun e w' => ∃ v, e = .returned v ∧ OwnX w' B v (xs ++ evB rs[k]) ∧ Onto W w' u v)
    (w : World) (hb0 : Below B w0 w) (hown0 : OwnX w B b bs) (hB : B ≤ w.heap.size) :
    Calls Try.prog 125 #[b, .slice a rs.length cap, .func (.func 126) #[] #[]] w fun e w' => ∃ v, e = .returned v ∧ OwnX w' B v (bs ++ (numB rs.length ++ rs.flatMap evB)) ∧ Onto w w' b v := by
  have HR := dHide HR
  have HE := dHide HE
  have HF := dHide hfl
  have C := dHide (addNum_x B b bs rs.length (by omega) w hown0 (by omega) hB)
  have n9 := numB_len rs.length
  have ES : Hid (bs ++ (numB rs.length ++ rs.flatMap evB) = (bs ++ numB rs.length) ++ rs.flatMap evB) := by simp only [Hid, List.append_assoc]
  have hhd : (bs ++ numB rs.length).length ≤ 800000009 := by rw [List.length_append]; omega
  generalize bs ++ numB rs.length = hd at *
  clear hfl
  go_enter Try.func125, Try.ntmps125
  go_wp2_with fail
  refine (dUnhide C).mono ?_
  rintro e w1 ⟨v1, rfl, O1, T1⟩
  have B1 := T1.at hown0 hb0 hB
  clear C n9 hown0 hb0
  go_wp2
  go_loopw [0, 15] (fun o xv wr => ∃ k : Nat, xv = .int .i64 (k : Int) ∧ k ≤ rs.length ∧ OwnX wr B o (hd ++ (rs.take k).flatMap evB) ∧ Onto w wr b o ∧ Below B w0 wr ∧ B ≤ wr.heap.size) (fun _ xv _ => rs.length - (intOf xv).toNat)
  case atStart => exact ⟨0, rfl, Nat.zero_le _, by simpa using O1, T1, B1.1, B1.2⟩
  case round =>
    clear O1 T1 B1
    obtain ⟨k, rfl, hk, ho, ht, hb, hbz⟩ := hrel
    by_cases hlt : (k : Int) < (rs.length : Int)
    · have hkl : k < rs.length := by omega
      obtain ⟨bk, off, rfl, hc⟩ := (dUnhide HR wr hb).atEv hkl
      obtain ⟨c0, c1, c2⟩ := hc k hkl
      have hS : (rs.take (k + 1)).flatMap evB = (rs.take k).flatMap evB ++ evB rs[k] := by
        have hkm : k < rs.length := hkl
        rw [List.take_succ_eq_append_getElem hkm, List.flatMap_append, List.flatMap_cons, List.flatMap_nil, List.append_nil]
      have hfk := dUnhide HF k
      have AE := dHide (dUnhide HE k hkl)
      generalize rs[k] = y at *
      generalize (rs.take k).flatMap evB = FK at *
      obtain ⟨y1, y2, y3⟩ := y
      simp only at c0 c1 c2 hS AE
      have bA : Below wr.heap.size wr (wr.alloc (.cells #[.int .i64 y1, .int .i64 y2, .string y3] 116)) := (Below.refl _ _).alloc (Nat.le_refl _) _
      have FIN : Hid (∀ v5 w5, OwnX w5 B v5 ((hd ++ FK) ++ evB ⟨y1, y2, y3⟩) → Onto (wr.alloc (.cells #[.int .i64 y1, .int .i64 y2, .string y3] 116)) w5 u0 v5 → OwnX w5 B v5 (hd ++ (rs.take (k + 1)).flatMap evB) ∧ Onto w w5 b v5 ∧ Below B w0 w5 ∧ B ≤ w5.heap.size) := fun v5 w5 h1 h2 => by
        have q1 := ht.trans (((Onto.refl wr u0).alloc (.cells #[.int .i64 y1, .int .i64 y2, .string y3] 116)).trans h2)
        have q2 := ((Onto.refl wr u0).alloc (.cells #[.int .i64 y1, .int .i64 y2, .string y3] 116)).trans h2
        exact ⟨by rw [hS, ← List.append_assoc]; exact h1, q1, q2.at ho hb hbz⟩
      have AE := dHide (dUnhide AE u0 (hd ++ FK) (wr.alloc (.cells #[.int .i64 y1, .int .i64 y2, .string y3] 116)) (hb.trans (bA.mono hbz)) (ho.alloc _) (by rw [List.length_append]; omega) (Nat.le_trans hbz bA.size))
      clear hc ho ht hS hb bA hfk
      go_wp2_with fail
      refine (dUnhide AE).mono ?_
      rintro e w5 ⟨v5, rfl, O5, T5⟩
      have F := dHide (dUnhide FIN v5 w5 O5 T5)
      clear O5 T5 FIN AE c0 c1 c2
      go_wp2
      go_roundw
      case rel => exact ⟨k + 1, by go_num, by omega, (dUnhide F).1, (dUnhide F).2.1, (dUnhide F).2.2.1, (dUnhide F).2.2.2⟩
      case measure => simp [intOf]; omega
    · have e1 : rs.take k = rs := List.take_of_length_le (by omega)
      rw [e1] at ho
      have Q := dHide (And.intro ho ht)
      clear e1 ho ht hb
      go_wp2
      go_ret
      refine ⟨_, rfl, ?_⟩
      rw [dUnhide ES]
      exact dUnhide Q
set_option maxHeartbeats 4000000 in
theorem addReader_x (B : Nat) (w0 : World) (b : Value) (bs : List UInt8) (n0 n1 : Nat) (h0 : n0 ≤ 9223372036854775807) (h1 : n1 ≤ 9223372036854775807) (a : Option Addr) (cap : Nat) (rs : List Ev) (hl : rs.length ≤ 1048576) (hfl : ∀ k, ((rs.take k).flatMap evB).length ≤ 100000000) (HR : ∀ W, Below B w0 W → Rw 3 Ev.cl W (.slice a rs.length cap) rs) (HE : ∀ k (hk : k < rs.length) u xs W, Below B w0 W → OwnX W B u xs → xs.length ≤ 1000000000 → B ≤ W.heap.size → Calls Try.prog 126 #[u, .agg #[.int .i64 rs[k].kind, .int .i64 rs[k].pl, .string rs[k].data]] W fun e w' => ∃ v, e = .returned v ∧ OwnX w' B v (xs ++ evB rs[k]) ∧ Onto W w' u v) (hbs : bs.length ≤ 700000000) (w : World) (hb0 : Below B w0 w) (hown0 : OwnX w B b bs) (hB : B ≤ w.heap.size) :
    Calls Try.prog 98 #[b, .agg #[.int .i64 (n0 : Int), .int .i64 (n1 : Int), .slice a rs.length cap]] w fun e w' => ∃ v, e = .returned v ∧ OwnX w' B v (bs ++ ((numB n0 ++ numB n1) ++ (numB rs.length ++ rs.flatMap evB))) ∧ Onto w w' b v := by
  have HF := dHide hfl
  have HR := dHide HR
  have HE := dHide HE
  clear hfl
  have l0 := numB_len n0
  have l1 := numB_len n1
  have X0 := Bx.new w [.int .i64 (n0 : Int), .int .i64 (n1 : Int), .slice a rs.length cap] 67
  have O0 := hown0.alloc (.cells #[.int .i64 (n0 : Int), .int .i64 (n1 : Int), .slice a rs.length cap] 67)
  have T0 := (Onto.refl w b).alloc (.cells #[.int .i64 (n0 : Int), .int .i64 (n1 : Int), .slice a rs.length cap] 67)
  have HZ := dHide fun (W : World) (v : Value) (h : Onto w W b v) => h.at hown0 hb0 hB
  have Z0 := dUnhide HZ _ _ T0
  have ES : Hid (bs ++ ((numB n0 ++ numB n1) ++ (numB rs.length ++ rs.flatMap evB)) = (((bs ++ numB n0) ++ numB n1) ++ (numB rs.length ++ rs.flatMap evB))) := by simp only [Hid, List.append_assoc]
  have NB : b.ownBlock ≠ some w.heap.size := fun e => by have := (hown0.lt _ e).2; omega
  have NB := dHide NB
  clear hown0 hb0
  go_enter Try.func98, Try.ntmps98
  have k0 := X0 0 _ rfl
  go_wp2_with fail
  generalize w.alloc (.cells #[.int .i64 (n0 : Int), .int .i64 (n1 : Int), .slice a rs.length cap] 67) = wb at *
  have U0 := Onto.refl wb b
  have C := addNum_x B b bs n0 (by omega) wb O0 (by first | omega | (simp only [List.length_append]; omega)) Z0.2
  refine C.mono ?_
  rintro e w1 ⟨v1, rfl, O1, t1⟩
  have U1 := U0.trans t1
  have Z1 := dUnhide HZ _ _ (T0.trans U1)
  clear C Z0 O0 t1 U0 k0
  have k1 := (X0.grown U1.1 (dUnhide NB)) 1 _ rfl
  have C := addNum_x B v1 (bs ++ numB n0) n1 (by omega) w1 O1 (by first | omega | (simp only [List.length_append]; omega)) Z1.2
  go_wp2_with fail
  refine C.mono ?_
  rintro e w2 ⟨v2, rfl, O2, t2⟩
  have U2 := U1.trans t2
  have Z2 := dUnhide HZ _ _ (T0.trans U2)
  clear C Z1 O1 t2 U1 k1
  have k2 := (X0.grown U2.1 (dUnhide NB)) 2 _ rfl
  have C := addListEvent_x B w0 v2 ((bs ++ numB n0) ++ numB n1) a cap rs hl (dUnhide HF) (by first | omega | (simp only [List.length_append]; omega)) (dUnhide HR) (dUnhide HE) w2 Z2.1 O2 Z2.2
  go_wp2_with fail
  refine C.mono ?_
  rintro e w3 ⟨v3, rfl, O3, t3⟩
  have U3 := U2.trans t3
  have Z3 := dUnhide HZ _ _ (T0.trans U3)
  clear C Z2 O2 t3 U2 k2
  have F := dHide (And.intro O3 (T0.trans U3))
  clear O3 U3 T0 X0 HZ NB Z3
  go_wp2
  go_ret
  refine ⟨_, rfl, ?_⟩
  rw [dUnhide ES]
  exact dUnhide F
end Go.Proofs.Ytioocibgfhgkhaa
