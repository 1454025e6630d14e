/- Several texts in one: PkK, PiE, WrD, WrE, WrF, PiH, PiK, WrSc, WrSd. -/
import Derived.Test.YtioocibgfhgkhaaGreatDoorHp1
import Derived.Test.YtioocibgfhgkhaaGreatDoorPkH
import Derived.Test.YtioocibgfhgkhaaGreatDoorWrC
import Derived.Deep.RegionHeld3
import Derived.Deep.DeepCutAuto
import Derived.Test.YtioocibgfhgkhaaGreatDoorHi1
import Derived.Test.YtioocibgfhgkhaaGreatDoorGaA
import Derived.Lib.SliceRun
import Derived.Test.YtioocibgfhgkhaaGreatDoorRetQ
import Derived.Test.YtioocibgfhgkhaaGreatDoorOpenW
import Derived.Test.YtioocibgfhgkhaaGreatDoorGaG
import Derived.Test.YtioocibgfhgkhaaGreatDoorPutW
import Derived.Test.YtioocibgfhgkhaaGreatDoorWrSb
namespace Go.Proofs.YtioocibgfhgkhaaGreatDoor
open Go.ChangeShapes Go.WideShapes Go.ChangeAt Go.RowKit
set_option linter.unusedVariables false
set_option linter.unusedSimpArgs false
set_option maxRecDepth 100000

/-- The bytes of a word, and of a writer. -/
def wdB (e : Wd) : List UInt8 := textB e.data.data.toList ++ lstB e.acks
def wtB (m : Wt) : List UInt8 := numB m.epoch.toNat ++ numB m.words.length ++ m.words.flatMap wdB
open Classical in
/-- WriterPack. -/
noncomputable def wtM (ds : List Int) (cop : Int) (m : Wt) : List UInt8 × Bool := if wrP ds cop m then (wtB m, true) else ([], false)
theorem wtM_yes {ds : List Int} {cop : Int} {m : Wt} (h : wrP ds cop m) : wtM ds cop m = (wtB m, true) := if_pos h
theorem wtM_no {ds : List Int} {cop : Int} {m : Wt} (h : ¬ wrP ds cop m) : wtM ds cop m = ([], false) := if_neg h
theorem wdsB_len (es : List Wd) : (es.flatMap wdB).length ≤ sumX es + 9 * sumW es + 27 * es.length := by
  induction es with
  | nil => simp
  | cons e es ih =>
    have h1 := lstB_len e.acks
    have h2 := numB_len e.data.data.toList.length
    have h3 : e.data.data.toList.length = e.data.size := by rw [← Lib.size_eq]
    have h4 : sumW (e :: es) = e.acks.length + sumW es := by simp [sumW]
    have h6 : sumX (e :: es) = e.data.size + sumX es := by simp [sumX]
    have h5 : (wdB e).length ≤ e.data.size + 9 * e.acks.length + 18 := by unfold wdB textB; simp only [List.length_append]; omega
    rw [List.flatMap_cons, List.length_append, List.length_cons, h4, h6]
    omega
theorem wdsB_take (es : List Wd) (k : Nat) (h : k < es.length) : (es.take (k + 1)).flatMap wdB = (es.take k).flatMap wdB ++ wdB es[k] := by
  rw [List.take_succ_eq_append_getElem h, List.flatMap_append, List.flatMap_cons, List.flatMap_nil, List.append_nil]
theorem natI_nodes {ds : List Int} {cop : Int} {xs : List Int} (h : nodesP ds cop xs) : natI xs := fun x hx => by
  obtain ⟨i, hi, rfl⟩ := List.getElem_of_mem hx
  have h1 := h.2 i hi
  have h2 := h.1.1
  omega
theorem Rw.word' {w : World} {b off n cap : Nat} {rs : List (Nst Wd)} (h : Rw 3 wdCl w (.slice (some ⟨b, off, none⟩) n cap) rs) {k : Nat} (hk : k < rs.length) : WdAt w b (off + k * 3) rs[k] := by
  obtain ⟨b', off', e, hc⟩ := h.word hk
  cases e
  exact hc k hk
end Go.Proofs.YtioocibgfhgkhaaGreatDoor
namespace Go.Proofs.YtioocibgfhgkhaaGreatDoor
open Go.ChangeShapes Go.WideShapes Go.ChangeAt Go.RowKit
set_option linter.unusedVariables false
set_option linter.unusedSimpArgs false
set_option maxRecDepth 100000

set_option maxHeartbeats 4000000 in
theorem addWord_x (B : Nat) (w0 : World) (b : Value) (bs : List UInt8) (d : ByteArray) (na : Option Addr) (nc : Nat) (ns : List Int) (dn : Bool) (h0 : natI ns) (hnl : ns.length ≤ 1048576) (hd : d.size ≤ 1048576) (HV : ∀ W, Below B w0 W → Ns W (.slice na ns.length nc) ns) (hbs : bs.length ≤ 1000000000) (w : World) (hb0 : Below B w0 w) (hown0 : OwnX w B b bs) (hB : B ≤ w.heap.size) :
    Calls Tryz.prog 89 #[b, .agg #[.string d, .slice na ns.length nc, .bool dn]] w fun e w' => ∃ v, e = .returned v ∧ OwnX w' B v (bs ++ (textB d.data.toList ++ lstB ns)) ∧ Onto w w' b v := by
  have l0 := textB_len d
  have HV := dHide HV
  have X0 := Bx.new w [.string d, .slice na ns.length nc, .bool dn] 72
  have O0 := hown0.alloc (.cells #[.string d, .slice na ns.length nc, .bool dn] 72)
  have T0 := (Onto.refl w b).alloc (.cells #[.string d, .slice na ns.length nc, .bool dn] 72)
  have HZ := dHide fun (W : World) (v : Value) (h : Onto w W b v) => h.at hown0 hb0 hB
  have Z0 := dUnhide HZ _ _ T0
  have ES : Hid (bs ++ (textB d.data.toList ++ lstB ns) = ((bs ++ textB d.data.toList) ++ lstB ns)) := by simp only [Hid, List.append_assoc]
  have NB : b.ownBlock ≠ some w.heap.size := fun e => by have := (hown0.lt _ e).2; omega
  have NB := dHide NB
  clear hown0 hb0
  go_enter Tryz.func89, Tryz.ntmps89
  have k0 := X0 0 _ rfl
  go_wp2_with fail
  generalize w.alloc (.cells #[.string d, .slice na ns.length nc, .bool dn] 72) = wb at *
  have U0 := Onto.refl wb b
  have C := addText_x B b bs d (by omega) (by first | omega | (simp only [List.length_append]; omega)) wb O0 Z0.2
  refine C.mono ?_
  rintro e w1 ⟨v1, rfl, O1, t1⟩
  have U1 := U0.trans t1
  have Z1 := dUnhide HZ _ _ (T0.trans U1)
  clear C Z0 O0 t1 U0 k0
  have k1 := (X0.grown U1.1 (dUnhide NB)) 1 _ rfl
  have C := addListI_x B w0 v1 (bs ++ textB d.data.toList) (.slice na ns.length nc) ns h0 (by omega) (by first | omega | (simp only [List.length_append]; omega)) (dUnhide HV) w1 Z1.1 O1 Z1.2
  go_wp2_with fail
  refine C.mono ?_
  rintro e w2 ⟨v2, rfl, O2, t2⟩
  have U2 := U1.trans t2
  have Z2 := dUnhide HZ _ _ (T0.trans U2)
  clear C Z1 O1 t2 U1 k1
  have F := dHide (And.intro O2 (T0.trans U2))
  clear O2 U2 T0 X0 HZ NB Z2
  go_wp2
  go_ret
  refine ⟨_, rfl, ?_⟩
  rw [dUnhide ES]
  exact dUnhide F
set_option maxHeartbeats 4000000 in
theorem addListWord_x (B : Nat) (w0 : World) (b : Value) (bs : List UInt8) (a : Option Addr) (cap : Nat) (rs : List (Nst Wd)) (hl : rs.length ≤ 1048576) (hfl : ∀ k, (((rs.map Nst.m).take k).flatMap wdB).length ≤ 100000000) (hbs : bs.length ≤ 800000000) (HR : ∀ W, Below B w0 W → Rw 3 wdCl W (.slice a rs.length cap) rs)
    (HE : ∀ k (hk : k < rs.length) u xs W, Below B w0 W → OwnX W B u xs → xs.length ≤ 1000000000 → B ≤ W.heap.size → Calls Tryz.prog 89 #[u, .agg #[.string rs[k].m.data, .slice rs[k].a rs[k].m.acks.length rs[k].c, .bool rs[k].m.done]] W fun e w' => ∃ v, e = .returned v ∧ OwnX w' B v (xs ++ wdB (Nst.m rs[k])) ∧ Onto W w' u v)
    (w : World) (hb0 : Below B w0 w) (hown0 : OwnX w B b bs) (hB : B ≤ w.heap.size) :
    Calls Tryz.prog 88 #[b, .slice a rs.length cap, .func (.func 89) #[] #[]] w fun e w' => ∃ v, e = .returned v ∧ OwnX w' B v (bs ++ (numB rs.length ++ (rs.map Nst.m).flatMap wdB)) ∧ Onto w w' b v := by
  have HR := dHide HR
  have HE := dHide HE
  have HF := dHide hfl
  have C := dHide (addNum_x B b bs rs.length (by omega) w hown0 (by omega) hB)
  have n9 := numB_len rs.length
  have ES : Hid (bs ++ (numB rs.length ++ (rs.map Nst.m).flatMap wdB) = (bs ++ numB rs.length) ++ (rs.map Nst.m).flatMap wdB) := by simp only [Hid, List.append_assoc]
  have hhd : (bs ++ numB rs.length).length ≤ 800000009 := by rw [List.length_append]; omega
  generalize bs ++ numB rs.length = hd at *
  clear hfl
  go_enter Tryz.func88, Tryz.ntmps88
  go_wp2_with fail
  refine (dUnhide C).mono ?_
  rintro e w1 ⟨v1, rfl, O1, T1⟩
  have B1 := T1.at hown0 hb0 hB
  clear C n9 hown0 hb0
  go_wp2
  go_loopw [0, 15] (fun o xv wr => ∃ k : Nat, xv = .int .i64 (k : Int) ∧ k ≤ rs.length ∧ OwnX wr B o (hd ++ ((rs.map Nst.m).take k).flatMap wdB) ∧ Onto w wr b o ∧ Below B w0 wr ∧ B ≤ wr.heap.size) (fun _ xv _ => rs.length - (intOf xv).toNat)
  case atStart => exact ⟨0, rfl, Nat.zero_le _, by simpa using O1, T1, B1.1, B1.2⟩
  case round =>
    clear O1 T1 B1
    obtain ⟨k, rfl, hk, ho, ht, hb, hbz⟩ := hrel
    by_cases hlt : (k : Int) < (rs.length : Int)
    · have hkl : k < rs.length := by omega
      obtain ⟨bk, off, rfl, hc⟩ := (dUnhide HR wr hb).word hkl
      obtain ⟨c0, c1, c2⟩ := hc k hkl
      have hS : ((rs.map Nst.m).take (k + 1)).flatMap wdB = ((rs.map Nst.m).take k).flatMap wdB ++ wdB (Nst.m rs[k]) := by
        have hkm : k < (rs.map Nst.m).length := by simpa using hkl
        rw [List.take_succ_eq_append_getElem hkm, List.flatMap_append, List.flatMap_cons, List.flatMap_nil, List.append_nil, List.getElem_map]
      have hfk := dUnhide HF k
      have AE := dHide (dUnhide HE k hkl)
      generalize rs[k] = y at *
      generalize ((rs.map Nst.m).take k).flatMap wdB = FK at *
      obtain ⟨ya, yc, ⟨da, ns, dn⟩⟩ := y
      simp only [Sv] at *
      have bA : Below wr.heap.size wr (wr.alloc (.cells #[.string da, .slice ya ns.length yc, .bool dn] 72)) := (Below.refl _ _).alloc (Nat.le_refl _) _
      have FIN : Hid (∀ v5 w5, OwnX w5 B v5 ((hd ++ FK) ++ wdB ⟨da, ns, dn⟩) → Onto (wr.alloc (.cells #[.string da, .slice ya ns.length yc, .bool dn] 72)) w5 u0 v5 → OwnX w5 B v5 (hd ++ ((rs.map Nst.m).take (k + 1)).flatMap wdB) ∧ Onto w w5 b v5 ∧ Below B w0 w5 ∧ B ≤ w5.heap.size) := fun v5 w5 h1 h2 => by
        have q1 := ht.trans (((Onto.refl wr u0).alloc (.cells #[.string da, .slice ya ns.length yc, .bool dn] 72)).trans h2)
        have q2 := ((Onto.refl wr u0).alloc (.cells #[.string da, .slice ya ns.length yc, .bool dn] 72)).trans h2
        exact ⟨by rw [hS, ← List.append_assoc]; exact h1, q1, q2.at ho hb hbz⟩
      have AE := dHide (dUnhide AE u0 (hd ++ FK) (wr.alloc (.cells #[.string da, .slice ya ns.length yc, .bool dn] 72)) (hb.trans (bA.mono hbz)) (ho.alloc _) (by rw [List.length_append]; omega) (Nat.le_trans hbz bA.size))
      clear hc ho ht hS hb bA hfk
      go_wp2_with fail
      refine (dUnhide AE).mono ?_
      rintro e w5 ⟨v5, rfl, O5, T5⟩
      have F := dHide (dUnhide FIN v5 w5 O5 T5)
      clear O5 T5 FIN AE c0 c1 c2
      go_wp2
      go_roundw
      case rel => exact ⟨k + 1, by go_num, by omega, (dUnhide F).1, (dUnhide F).2.1, (dUnhide F).2.2.1, (dUnhide F).2.2.2⟩
      case measure => simp [intOf]; omega
    · have e1 : (rs.map Nst.m).take k = rs.map Nst.m := List.take_of_length_le (by rw [List.length_map]; omega)
      rw [e1] at ho
      have Q := dHide (And.intro ho ht)
      clear e1 ho ht hb
      go_wp2
      go_ret
      refine ⟨_, rfl, ?_⟩
      rw [dUnhide ES]
      exact dUnhide Q
set_option maxHeartbeats 4000000 in
theorem addWriter_x (B : Nat) (w0 : World) (b : Value) (bs : List UInt8) (n0 : Nat) (h0 : n0 ≤ 9223372036854775807) (a : Option Addr) (cap : Nat) (rs : List (Nst Wd)) (hl : rs.length ≤ 1048576) (hfl : ∀ k, (((rs.map Nst.m).take k).flatMap wdB).length ≤ 100000000) (HR : ∀ W, Below B w0 W → Rw 3 wdCl W (.slice a rs.length cap) rs) (HE : ∀ k (hk : k < rs.length) u xs W, Below B w0 W → OwnX W B u xs → xs.length ≤ 1000000000 → B ≤ W.heap.size → Calls Tryz.prog 89 #[u, .agg #[.string rs[k].m.data, .slice rs[k].a rs[k].m.acks.length rs[k].c, .bool rs[k].m.done]] W fun e w' => ∃ v, e = .returned v ∧ OwnX w' B v (xs ++ wdB (Nst.m rs[k])) ∧ Onto W w' u v) (hbs : bs.length ≤ 700000000) (w : World) (hb0 : Below B w0 w) (hown0 : OwnX w B b bs) (hB : B ≤ w.heap.size) :
    Calls Tryz.prog 61 #[b, .agg #[.int .i64 (n0 : Int), .slice a rs.length cap]] w fun e w' => ∃ v, e = .returned v ∧ OwnX w' B v (bs ++ (numB n0 ++ (numB rs.length ++ (rs.map Nst.m).flatMap wdB))) ∧ Onto w w' b v := by
  have HF := dHide hfl
  have HR := dHide HR
  have HE := dHide HE
  clear hfl
  have l0 := numB_len n0
  have X0 := Bx.new w [.int .i64 (n0 : Int), .slice a rs.length cap] 44
  have O0 := hown0.alloc (.cells #[.int .i64 (n0 : Int), .slice a rs.length cap] 44)
  have T0 := (Onto.refl w b).alloc (.cells #[.int .i64 (n0 : Int), .slice a rs.length cap] 44)
  have HZ := dHide fun (W : World) (v : Value) (h : Onto w W b v) => h.at hown0 hb0 hB
  have Z0 := dUnhide HZ _ _ T0
  have ES : Hid (bs ++ (numB n0 ++ (numB rs.length ++ (rs.map Nst.m).flatMap wdB)) = ((bs ++ numB n0) ++ (numB rs.length ++ (rs.map Nst.m).flatMap wdB))) := by simp only [Hid, List.append_assoc]
  have NB : b.ownBlock ≠ some w.heap.size := fun e => by have := (hown0.lt _ e).2; omega
  have NB := dHide NB
  clear hown0 hb0
  go_enter Tryz.func61, Tryz.ntmps61
  have k0 := X0 0 _ rfl
  go_wp2_with fail
  generalize w.alloc (.cells #[.int .i64 (n0 : Int), .slice a rs.length cap] 44) = wb at *
  have U0 := Onto.refl wb b
  have C := addNum_x B b bs n0 (by omega) wb O0 (by first | omega | (simp only [List.length_append]; omega)) Z0.2
  refine C.mono ?_
  rintro e w1 ⟨v1, rfl, O1, t1⟩
  have U1 := U0.trans t1
  have Z1 := dUnhide HZ _ _ (T0.trans U1)
  clear C Z0 O0 t1 U0 k0
  have k1 := (X0.grown U1.1 (dUnhide NB)) 1 _ rfl
  have C := addListWord_x B w0 v1 (bs ++ numB n0) a cap rs hl (dUnhide HF) (by first | omega | (simp only [List.length_append]; omega)) (dUnhide HR) (dUnhide HE) w1 Z1.1 O1 Z1.2
  go_wp2_with fail
  refine C.mono ?_
  rintro e w2 ⟨v2, rfl, O2, t2⟩
  have U2 := U1.trans t2
  have Z2 := dUnhide HZ _ _ (T0.trans U2)
  clear C Z1 O1 t2 U1 k1
  have F := dHide (And.intro O2 (T0.trans U2))
  clear O2 U2 T0 X0 HZ NB Z2
  go_wp2
  go_ret
  refine ⟨_, rfl, ?_⟩
  rw [dUnhide ES]
  exact dUnhide F
end Go.Proofs.YtioocibgfhgkhaaGreatDoor
namespace Go.Proofs.YtioocibgfhgkhaaGreatDoor
open Go.ChangeShapes Go.WideShapes Go.ChangeAt Go.RowKit
set_option linter.unusedVariables false
set_option linter.unusedSimpArgs false
set_option maxRecDepth 100000

/-- The cell of an open word: where the word lies. -/
def opCl (p : Addr) : List Value := [.pointer (some p)]
theorem elemO : Elem (α := Addr) 191 177 (.agg #[.pointer none]) 1 8 opCl where
  under := Tryz.underlying177
  info := by kernel_rfl
  zcells := by kernel_rfl
  pos := by decide
  len := fun _ => rfl
  one := fun a u hu => by
    simp only [opCl, List.mem_cons, List.not_mem_nil, or_false] at hu
    subst hu
    rfl
theorem rwO_one (w : World) (p : Addr) (T : TypeId) (c : Nat) (hc : 1 ≤ c ∧ c ≤ 9223372036854775807) : Rw 1 opCl (w.alloc (.cells #[.pointer (some p)] T)) (.slice (some ⟨w.heap.size, 0, none⟩) 1 c) [p] := by
  refine ⟨by simp, _, _, rfl, by simpa using hc, .inr ⟨w.heap.size, 0, rfl, fun i hi j u hu => ?_⟩⟩
  obtain rfl : i = 0 := by simp at hi; omega
  simp only [List.getElem_cons_zero, opCl] at hu
  simpa using hu
/-- Which of the first k words are open. -/
def opI (ms : List Wd) (k : Nat) : List Nat := (List.range k).filter fun i => !(ms.getD i ⟨⟨#[]⟩, [], true⟩).done
theorem opI_step (ms : List Wd) (k : Nat) (h : k < ms.length) : opI ms (k + 1) = opI ms k ++ (if ms[k].done then [] else [k]) := by
  unfold opI
  rw [List.range_succ, List.filter_append]
  congr 1
  rw [List.filter_cons, getD_lt _ h]
  cases ms[k].done <;> simp
theorem opI_len (ms : List Wd) : ∀ k, k ≤ ms.length → (opI ms k).length = openN (ms.take k)
  | 0, _ => by simp [opI, openN]
  | k + 1, h => by
    rw [opI_step ms k (by omega), openN_step ms k (by omega), List.length_append, opI_len ms k (by omega)]
    cases ms[k].done <;> simp
theorem opI_le (ms : List Wd) (k : Nat) : (opI ms k).length ≤ k := by
  unfold opI
  have := List.length_filter_le (fun i => !(ms.getD i ⟨⟨#[]⟩, [], true⟩).done) (List.range k)
  simpa using this
/-- Where these lie. -/
def adW (b off : Nat) (i : Nat) : Addr := ⟨b, off + i * 3, none⟩
set_option maxHeartbeats 4000000 in
theorem winOpen_any (b o bb off cap : Nat) (a : Option Addr) (rs : List (Nst Wd)) (w : World) (hc : w.cell? ⟨b, o + 2, none⟩ = some (.slice a rs.length cap)) (hr : Rw 3 wdCl w (.slice a rs.length cap) rs) (ha : rs = [] ∨ a = some ⟨bb, off, none⟩) (hl : rs.length ≤ 1048576) :
    Calls Tryz.prog 116 #[.pointer (some ⟨b, o, none⟩)] w fun e w' => (∃ u, e = .returned u ∧ ApR 191 1 opCl w' w.heap.size u ((opI (rs.map Nst.m) rs.length).map (adW bb off))) ∧ Below w.heap.size w w' := by
  have ba : ∀ (w : World) o, Below w.heap.size w (w.alloc o) := fun w o => (Below.refl _ _).alloc (Nat.le_refl _) o
  have HC := dHide fun W (hb : Below w.heap.size w W) => (hb.cell (p := ⟨b, o + 2, none⟩) (dCell_lt hc)).trans hc
  have HR := dHide fun W (hb : Below w.heap.size w W) => hr.below hb
  have HA := dHide ha
  have t1 := taOpen_done
  have t2 := taOpen_yes
  clear ha hr
  go_enter Tryz.func116, Tryz.ntmps116
  go_wp2
  go_loopw [3, 12] (fun u x wr => ∃ (k : Nat) (oa : Option Addr) (oc : Nat), x = .int .i64 (k : Int) ∧ u = .slice oa (opI (rs.map Nst.m) k).length oc ∧ k ≤ rs.length ∧ Hid (ApR 191 1 opCl wr w.heap.size (.slice oa (opI (rs.map Nst.m) k).length oc) ((opI (rs.map Nst.m) k).map (adW bb off))) ∧ Below w.heap.size w wr) (fun _ x _ => rs.length - (intOf x).toNat)
  case atStart => exact ⟨0, none, 0, rfl, rfl, Nat.zero_le _, .inl ⟨rfl, none, rfl⟩, Below.refl _ _⟩
  case round =>
    obtain ⟨k, oa, oc, rfl, rfl, hk, hA, hb⟩ := hrel
    by_cases hlt : (k : Int) < (rs.length : Int)
    · have hkl : k < rs.length := by omega
      have hne : ¬ rs = [] := fun e => by rw [e] at hkl; simp at hkl
      have ea := (dUnhide HA).resolve_left hne
      subst ea
      obtain ⟨b', off', e', he⟩ := (dUnhide HR wr hb).word hkl
      cases e'
      have c2 := (he k hkl).2.2
      have hcw := dUnhide HC wr hb
      have hst := opI_step (rs.map Nst.m) k (by simpa using hkl)
      rw [List.getElem_map] at hst
      have hol := opI_le (rs.map Nst.m) k
      cases hd : rs[k].m.done with
      | true =>
        rw [hd] at c2 hst
        simp only [if_true, List.append_nil] at hst
        have C1 := dHide (winAt_done b o bb off rs.length cap k wr hcw hkl (by omega) c2)
        have A2 := hA
        have EL := dHide hst
        clear c2 he hcw hst hd hA
        go_wp2_with fail
        refine (dUnhide C1).mono ?_
        rintro e w1 ⟨rfl, rfl⟩
        clear C1
        go_wp2
        go_roundw
        case rel => exact ⟨k + 1, oa, oc, by go_num, by rw [dUnhide EL], by omega, (by rw [dUnhide EL]; exact (dUnhide A2).below (ba _ _)), belowThen hb (ba _ _)⟩
        case measure => simp [intOf]; omega
      | false =>
        rw [hd] at c2 hst
        have C1 := dHide (winAt_open b o bb off rs.length cap k wr hcw hkl (by omega) c2)
        have EL : Hid (opI (rs.map Nst.m) (k + 1) = opI (rs.map Nst.m) k ++ [k]) := by rw [Hid, hst]; rfl
        have bA := ba wr (.cells #[.pointer (some ⟨bb, off + k * 3, none⟩)] 191)
        have bB := ba (wr.alloc (.cells #[.pointer (some ⟨bb, off + k * 3, none⟩)] 191)) (.cells #[.pointer (some ⟨bb, off + k * 3, none⟩)] 191)
        have A2 := dHide (((dUnhide hA).below bA).below bB)
        have RO := rwO_one (wr.alloc (.cells #[.pointer (some ⟨bb, off + k * 3, none⟩)] 191)) ⟨bb, off + k * 3, none⟩ 191 1 (by omega)
        rw [show (wr.alloc (.cells #[.pointer (some ⟨bb, off + k * 3, none⟩)] 191)).heap.size = wr.heap.size + 1 from by simp] at RO
        replace RO := dHide RO
        have tv : Hid (∀ j, touch (.slice oa (opI (rs.map Nst.m) k).length oc) = some j → w.heap.size ≤ j) := fun j hj => ((dUnhide hA).touched elemO hj).1
        have B2 := dHide (belowThen hb (belowThen bA bB))
        have hs2 := hb.size
        clear c2 he hcw hst hd hA bA bB
        go_wp2_with fail
        refine (dUnhide C1).mono ?_
        rintro e w1 ⟨rfl, rfl⟩
        clear C1
        go_wp2_with (first
          | (at_builtin; refine wp_apR elemO rfl _ _ rfl w.heap.size _ ((opI (rs.map Nst.m) k).map (adW bb off)) rfl (dUnhide A2) _ [⟨bb, off + k * 3, none⟩] rfl (dUnhide RO) (by simp; omega) (by simp; omega) (by simp; omega) ?_; intro v5 w5 P5 g5 t5
             obtain ⟨a5, c5, e5⟩ : ∃ a c, v5 = .slice a (opI (rs.map Nst.m) (k + 1)).length c := by
               obtain ⟨a, c, e⟩ := ApR.slice elemO P5
               exact ⟨a, c, by rw [e, dUnhide EL]; simp⟩
             subst e5
             have P6 : Hid (ApR 191 1 opCl w5 w.heap.size (.slice a5 (opI (rs.map Nst.m) (k + 1)).length c5) ((opI (rs.map Nst.m) (k + 1)).map (adW bb off))) := by
               have q := P5
               have e9 : (opI (rs.map Nst.m) (k + 1)).map (adW bb off) = (opI (rs.map Nst.m) k).map (adW bb off) ++ [⟨bb, off + k * 3, none⟩] := by rw [dUnhide EL, List.map_append]; rfl
               rw [Hid, e9]; exact q
             have B5 := dHide ((dUnhide B2).grown g5 (by simp; omega) (fun j hj => dUnhide tv j hj))
             clear P5))
        go_roundw
        case rel => exact ⟨k + 1, a5, c5, by go_num, rfl, by omega, P6, dUnhide B5⟩
        case measure => simp [intOf]; omega
    · have ek : k = rs.length := by omega
      subst ek
      clear HC HR HA
      go_wp2
      go_ret
      exact ⟨⟨_, rfl, dUnhide hA⟩, hb⟩
end Go.Proofs.YtioocibgfhgkhaaGreatDoor
namespace Go.Proofs.YtioocibgfhgkhaaGreatDoor
open Go.ChangeShapes Go.WideShapes Go.ChangeAt Go.RowKit
set_option linter.unusedVariables false
set_option linter.unusedSimpArgs false
set_option maxRecDepth 100000

set_option maxHeartbeats 8000000 in
theorem wordOk_any (p : Nst Wd) (sc : Value) (ds : List Int) (cop : Int) (w : World) (hc : Ns w sc ds) (hn : Ns w (Sv Wd.acks p) p.m.acks) (had : allInt ds) (hld : ds.length ≤ 1048576) (c0 : -9223372036854775808 ≤ cop) (c1 : cop ≤ 9223372036854775807) (hf : fitWd p.m) (hlx : p.m.acks.length ≤ 1048576) :
    Calls Tryz.prog 119 #[.agg #[.string p.m.data, .slice p.a p.m.acks.length p.c, .bool p.m.done], .agg #[sc, .int .i64 cop]] w fun e w' => RetB (wdP ds cop p.m) e ∧ Below w.heap.size w w' := by
  have CN := dHide fun W (hb : Below w.heap.size w W) => implNodes_any sc (Sv Wd.acks p) ds p.m.acks cop W (hc.below hb) (hn.below hb) had hf.1 hld hlx c0 c1
  have CH := dHide fun W (hb : Below w.heap.size w W) => implHolds_any sc (Sv Wd.acks p) ds p.m.acks cop W (hc.below hb) (hn.below hb) had hf.1 hld hlx c0 c1
  obtain ⟨ya, yc, yd, yn, yb⟩ := p
  obtain ⟨-, l0⟩ := hf
  unfold Sv at CN CH
  simp only at *
  have PD : Hid (wdP ds cop ⟨yd, yn, yb⟩ ↔ yd.size ≤ 40 ∧ nodesP ds cop yn ∧ (holdsP ds cop yn ↔ yb = true)) := Iff.rfl
  generalize wdP ds cop ⟨yd, yn, yb⟩ = P at *
  obtain ⟨-, ca, cc, rfl, -, -⟩ := hc
  clear hn
  have ba : ∀ (w : World) o, Below w.heap.size w (w.alloc o) := fun w o => (Below.refl _ _).alloc (Nat.le_refl _) o
  have B2 := belowThen (ba w (.cells #[.string yd, .slice ya yn.length yc, .bool yb] 72)) (ba _ (.cells #[.slice ca ds.length cc, .int .i64 cop] 32))
  have E2 := dHide ((Bx.new w [.string yd, .slice ya yn.length yc, .bool yb] 72).below (ba _ (.cells #[.slice ca ds.length cc, .int .i64 cop] 32)))
  have X2 := Bx.new (w.alloc (.cells #[.string yd, .slice ya yn.length yc, .bool yb] 72)) [.slice ca ds.length cc, .int .i64 cop] 32
  have e1 : (w.alloc (.cells #[.string yd, .slice ya yn.length yc, .bool yb] 72)).heap.size = w.heap.size + 1 := by simp
  rw [e1] at X2
  replace X2 := dHide X2
  clear e1
  go_enter Tryz.func119, Tryz.ntmps119
  go_wp2_with fail
  generalize (w.alloc (.cells #[.string yd, .slice ya yn.length yc, .bool yb] 72)).alloc (.cells #[.slice ca ds.length cc, .int .i64 cop] 32) = w2 at *
  have CNw := dHide fun W (hB : Below w2.heap.size w2 W) => dUnhide CN W (belowThen B2 hB)
  have CHw := dHide fun W (hB : Below w2.heap.size w2 W) => dUnhide CH W (belowThen B2 hB)
  clear CN CH
  generalize heb : w.heap.size = eb at *
  have B2' : Below w.heap.size w w2 := heb ▸ B2
  have bd : Below w2.heap.size w2 w2.drew := (Below.refl _ _).drew
  have PC : Hid (∀ W, Below w2.heap.size w2 W → W.cell? ⟨eb + 1, 0, none⟩ = some (.slice ca ds.length cc) ∧ W.cell? ⟨eb + 1, 1, none⟩ = some (.int .i64 cop) ∧ W.cell? ⟨eb, 0, none⟩ = some (.string yd) ∧ W.cell? ⟨eb, 1, none⟩ = some (.slice ya yn.length yc) ∧ W.cell? ⟨eb, 2, none⟩ = some (.bool yb)) := fun W hb => ⟨(dUnhide X2).below hb 0 _ rfl, (dUnhide X2).below hb 1 _ rfl, (dUnhide E2).below hb 0 _ rfl, (dUnhide E2).below hb 1 _ rfl, (dUnhide E2).below hb 2 _ rfl⟩
  by_cases hd : ¬ (yd.size : Int) ≤ 40
  · have R : RetB P (.returned (.bool false)) := RetB.no fun h => by have := ((dUnhide PD).1 h).1; omega
    clear PD CNw CHw
    refine wp_region_noPanic ?_
    refine wp_region_held_drew (S := fun W => W.cell? ⟨eb + 1, 0, none⟩ = some (.slice ca ds.length cc) ∧ W.cell? ⟨eb + 1, 1, none⟩ = some (.int .i64 cop) ∧ W.cell? ⟨eb, 0, none⟩ = some (.string yd) ∧ W.cell? ⟨eb, 1, none⟩ = some (.slice ya yn.length yc) ∧ W.cell? ⟨eb, 2, none⟩ = some (.bool yb)) (by kernel_rfl) (by first | exact dUnhide PC _ (Below.refl _ _) | exact dUnhide PC _ bd | exact dUnhide PC _ b3' | exact dUnhide PC _ b4') (fun hHeld => ?_)
    refine wpAnyH_take (i := 0) (oi := { dst := some 5, op := Op.fieldAddr 72 (Operand.tmp 2) 0, type := 0, pos := "l08_writer.go:19", after := #[], guard := none }) (v := ?_) rfl (by kernel_rfl) (by kernel_rfl) (by kernel_rfl) (fun _ _ _ h => h) (Or.inl ⟨by rfl, ?_⟩) (by assumption) ?_
    rotate_left 1
    · intro w hSw
      (try dsimp only at hSw)
      first | (go_simp; done) | (go_simp; with_reducible rfl)
    try simp only [Act.put, List.setIfInBounds_toArray, List.set_cons_zero, List.set_cons_succ]
    refine wpAnyH_take (i := 1) (oi := { dst := some 6, op := Op.load 9 (Operand.tmp 5), type := 9, pos := "l08_writer.go:19", after := #[{ on := 0, ground := Ground.data }], guard := none }) (v := ?_) rfl (by kernel_rfl) (by kernel_rfl) (by kernel_rfl) (fun _ _ _ h => h) (Or.inl ⟨by rfl, ?_⟩) (by assumption) ?_
    rotate_left 1
    · intro w hSw
      (try dsimp only at hSw)
      first | (go_simp; done) | (go_simp; with_reducible rfl)
    try simp only [Act.put, List.setIfInBounds_toArray, List.set_cons_zero, List.set_cons_succ]
    refine wpAnyH_take (i := 2) (oi := { dst := some 7, op := Op.call { callee := Callee.builtin Builtin.len, args := #[Operand.tmp 6], argTypes := #[9] }, type := 3, pos := "l08_writer.go:19", after := #[{ on := 1, ground := Ground.data }], guard := none }) (v := ?_) rfl (by kernel_rfl) (by kernel_rfl) (by kernel_rfl) (fun _ _ _ h => h) (Or.inl ⟨by rfl, ?_⟩) (by assumption) ?_
    rotate_left 1
    · intro w hSw
      (try dsimp only at hSw)
      first | (go_simp; done) | (go_simp; with_reducible rfl)
    try simp only [Act.put, List.setIfInBounds_toArray, List.set_cons_zero, List.set_cons_succ]
    refine wpAnyH_take (i := 3) (oi := { dst := some 8, op := Op.binOp BinOp.leq 3 (Operand.tmp 7) (Operand.const (Value.int IntKind.i64 40)) 3, type := 4, pos := "l08_writer.go:19", after := #[{ on := 2, ground := Ground.data }], guard := none }) (v := ?_) rfl (by kernel_rfl) (by kernel_rfl) (by kernel_rfl) (fun _ _ _ h => h) (Or.inl ⟨by rfl, ?_⟩) (by assumption) ?_
    rotate_left 1
    · intro w hSw
      (try dsimp only at hSw)
      first | (go_simp; done) | (go_simp; with_reducible rfl)
    try simp only [Act.put, List.setIfInBounds_toArray, List.set_cons_zero, List.set_cons_succ]
    refine wpAnyH_take (i := 4) (oi := { dst := some 9, op := Op.move (Operand.tmp 8), type := 4, pos := "l08_writer.go:19", after := #[{ on := 3, ground := Ground.data }], guard := none }) (v := ?_) rfl (by kernel_rfl) (by kernel_rfl) (by kernel_rfl) (fun _ _ _ h => h) (Or.inl ⟨by rfl, ?_⟩) (by assumption) ?_
    rotate_left 1
    · intro w hSw
      (try dsimp only at hSw)
      first | (go_simp; done) | (go_simp; with_reducible rfl)
    try simp only [Act.put, List.setIfInBounds_toArray, List.set_cons_zero, List.set_cons_succ]
    refine wpAnyH_take (i := 5) (oi := { dst := some 10, op := Op.load 32 (Operand.tmp 3), type := 32, pos := "l08_writer.go:19", after := #[{ on := 4, ground := Ground.guard }], guard := some (4, true) }) (v := undef) rfl (by kernel_rfl) (by kernel_rfl) (by kernel_rfl) (fun _ _ _ h => h) (Or.inr ⟨by rfl, rfl⟩) (by assumption) ?_
    try simp only [Act.put, List.setIfInBounds_toArray, List.set_cons_zero, List.set_cons_succ]
    refine wpAnyH_take (i := 6) (oi := { dst := some 11, op := Op.fieldAddr 72 (Operand.tmp 2) 1, type := 0, pos := "l08_writer.go:19", after := #[{ on := 4, ground := Ground.guard }], guard := some (4, true) }) (v := undef) rfl (by kernel_rfl) (by kernel_rfl) (by kernel_rfl) (fun _ _ _ h => h) (Or.inr ⟨by rfl, rfl⟩) (by assumption) ?_
    try simp only [Act.put, List.setIfInBounds_toArray, List.set_cons_zero, List.set_cons_succ]
    refine wpAnyH_take (i := 7) (oi := { dst := some 12, op := Op.load 22 (Operand.tmp 11), type := 22, pos := "l08_writer.go:19", after := #[{ on := 6, ground := Ground.data }, { on := 4, ground := Ground.guard }], guard := some (4, true) }) (v := undef) rfl (by kernel_rfl) (by kernel_rfl) (by kernel_rfl) (fun _ _ _ h => h) (Or.inr ⟨by rfl, rfl⟩) (by assumption) ?_
    try simp only [Act.put, List.setIfInBounds_toArray, List.set_cons_zero, List.set_cons_succ]
    refine wpAnyH_take (i := 8) (oi := { dst := some 13, op := Op.call { callee := Callee.value (Operand.func 112), args := #[Operand.tmp 10, Operand.tmp 12], argTypes := #[32, 22] }, type := 4, pos := "l08_writer.go:19", after := #[{ on := 5, ground := Ground.data }, { on := 7, ground := Ground.data }, { on := 4, ground := Ground.chain }, { on := 4, ground := Ground.guard }], guard := some (4, true) }) (v := undef) rfl (by kernel_rfl) (by kernel_rfl) (by kernel_rfl) (fun _ _ _ h => h) (Or.inr ⟨by rfl, rfl⟩) (by assumption) ?_
    try simp only [Act.put, List.setIfInBounds_toArray, List.set_cons_zero, List.set_cons_succ]
    refine wpAnyH_take (i := 9) (oi := { dst := some 14, op := Op.pick (Operand.tmp 9) (Operand.tmp 13) (Operand.const (Value.bool false)), type := 4, pos := "l08_writer.go:19", after := #[{ on := 4, ground := Ground.data }, { on := 8, ground := Ground.data }], guard := none }) (v := ?_) rfl (by kernel_rfl) (by kernel_rfl) (by kernel_rfl) (fun _ _ _ h => h) (Or.inl ⟨by rfl, ?_⟩) (by assumption) ?_
    rotate_left 1
    · intro w hSw
      (try dsimp only at hSw)
      first | (go_simp; done) | (go_simp; with_reducible rfl)
    try simp only [Act.put, List.setIfInBounds_toArray, List.set_cons_zero, List.set_cons_succ]
    refine wpAnyH_take (i := 10) (oi := { dst := some 15, op := Op.move (Operand.tmp 14), type := 4, pos := "l08_writer.go:19", after := #[{ on := 9, ground := Ground.data }, { on := 8, ground := Ground.chain }], guard := none }) (v := ?_) rfl (by kernel_rfl) (by kernel_rfl) (by kernel_rfl) (fun _ _ _ h => h) (Or.inl ⟨by rfl, ?_⟩) (by assumption) ?_
    rotate_left 1
    · intro w hSw
      (try dsimp only at hSw)
      first | (go_simp; done) | (go_simp; with_reducible rfl)
    try simp only [Act.put, List.setIfInBounds_toArray, List.set_cons_zero, List.set_cons_succ]
    refine wpAnyH_take (i := 11) (oi := { dst := some 16, op := Op.load 32 (Operand.tmp 3), type := 32, pos := "l08_writer.go:19", after := #[{ on := 10, ground := Ground.guard }], guard := some (10, true) }) (v := undef) rfl (by kernel_rfl) (by kernel_rfl) (by kernel_rfl) (fun _ _ _ h => h) (Or.inr ⟨by rfl, rfl⟩) (by assumption) ?_
    try simp only [Act.put, List.setIfInBounds_toArray, List.set_cons_zero, List.set_cons_succ]
    refine wpAnyH_take (i := 12) (oi := { dst := some 17, op := Op.fieldAddr 72 (Operand.tmp 2) 1, type := 0, pos := "l08_writer.go:19", after := #[{ on := 10, ground := Ground.guard }], guard := some (10, true) }) (v := undef) rfl (by kernel_rfl) (by kernel_rfl) (by kernel_rfl) (fun _ _ _ h => h) (Or.inr ⟨by rfl, rfl⟩) (by assumption) ?_
    try simp only [Act.put, List.setIfInBounds_toArray, List.set_cons_zero, List.set_cons_succ]
    refine wpAnyH_take (i := 13) (oi := { dst := some 18, op := Op.load 22 (Operand.tmp 17), type := 22, pos := "l08_writer.go:19", after := #[{ on := 12, ground := Ground.data }, { on := 10, ground := Ground.guard }], guard := some (10, true) }) (v := undef) rfl (by kernel_rfl) (by kernel_rfl) (by kernel_rfl) (fun _ _ _ h => h) (Or.inr ⟨by rfl, rfl⟩) (by assumption) ?_
    try simp only [Act.put, List.setIfInBounds_toArray, List.set_cons_zero, List.set_cons_succ]
    refine wpAnyH_take (i := 14) (oi := { dst := some 19, op := Op.call { callee := Callee.value (Operand.func 97), args := #[Operand.tmp 16, Operand.tmp 18], argTypes := #[32, 22] }, type := 4, pos := "l08_writer.go:19", after := #[{ on := 11, ground := Ground.data }, { on := 13, ground := Ground.data }, { on := 10, ground := Ground.chain }, { on := 10, ground := Ground.guard }], guard := some (10, true) }) (v := undef) rfl (by kernel_rfl) (by kernel_rfl) (by kernel_rfl) (fun _ _ _ h => h) (Or.inr ⟨by rfl, rfl⟩) (by assumption) ?_
    try simp only [Act.put, List.setIfInBounds_toArray, List.set_cons_zero, List.set_cons_succ]
    refine wpAnyH_take (i := 15) (oi := { dst := some 20, op := Op.fieldAddr 72 (Operand.tmp 2) 2, type := 0, pos := "l08_writer.go:19", after := #[{ on := 10, ground := Ground.guard }], guard := some (10, true) }) (v := undef) rfl (by kernel_rfl) (by kernel_rfl) (by kernel_rfl) (fun _ _ _ h => h) (Or.inr ⟨by rfl, rfl⟩) (by assumption) ?_
    try simp only [Act.put, List.setIfInBounds_toArray, List.set_cons_zero, List.set_cons_succ]
    refine wpAnyH_take (i := 16) (oi := { dst := some 21, op := Op.load 4 (Operand.tmp 20), type := 4, pos := "l08_writer.go:19", after := #[{ on := 15, ground := Ground.data }, { on := 10, ground := Ground.guard }], guard := some (10, true) }) (v := undef) rfl (by kernel_rfl) (by kernel_rfl) (by kernel_rfl) (fun _ _ _ h => h) (Or.inr ⟨by rfl, rfl⟩) (by assumption) ?_
    try simp only [Act.put, List.setIfInBounds_toArray, List.set_cons_zero, List.set_cons_succ]
    refine wpAnyH_take (i := 17) (oi := { dst := some 22, op := Op.binOp BinOp.eql 4 (Operand.tmp 19) (Operand.tmp 21) 4, type := 4, pos := "l08_writer.go:19", after := #[{ on := 14, ground := Ground.data }, { on := 16, ground := Ground.data }, { on := 10, ground := Ground.guard }], guard := some (10, true) }) (v := undef) rfl (by kernel_rfl) (by kernel_rfl) (by kernel_rfl) (fun _ _ _ h => h) (Or.inr ⟨by rfl, rfl⟩) (by assumption) ?_
    try simp only [Act.put, List.setIfInBounds_toArray, List.set_cons_zero, List.set_cons_succ]
    refine wpAnyH_take (i := 18) (oi := { dst := some 23, op := Op.pick (Operand.tmp 15) (Operand.tmp 22) (Operand.const (Value.bool false)), type := 4, pos := "l08_writer.go:19", after := #[{ on := 10, ground := Ground.data }, { on := 17, ground := Ground.data }], guard := none }) (v := ?_) rfl (by kernel_rfl) (by kernel_rfl) (by kernel_rfl) (fun _ _ _ h => h) (Or.inl ⟨by rfl, ?_⟩) (by assumption) ?_
    rotate_left 1
    · intro w hSw
      (try dsimp only at hSw)
      first | (go_simp; done) | (go_simp; with_reducible rfl)
    try simp only [Act.put, List.setIfInBounds_toArray, List.set_cons_zero, List.set_cons_succ]
    refine wpAnyH_take (i := 19) (oi := { dst := some 4, op := Op.assign (Operand.tmp 23), type := 4, pos := "l08_writer.go:19", after := #[{ on := 18, ground := Ground.data }, { on := 14, ground := Ground.chain }, { on := 0, ground := Ground.phase }, { on := 1, ground := Ground.phase }, { on := 2, ground := Ground.phase }, { on := 3, ground := Ground.phase }, { on := 4, ground := Ground.phase }, { on := 5, ground := Ground.phase }, { on := 6, ground := Ground.phase }, { on := 7, ground := Ground.phase }, { on := 8, ground := Ground.phase }, { on := 9, ground := Ground.phase }, { on := 10, ground := Ground.phase }, { on := 11, ground := Ground.phase }, { on := 12, ground := Ground.phase }, { on := 13, ground := Ground.phase }, { on := 14, ground := Ground.phase }, { on := 15, ground := Ground.phase }, { on := 16, ground := Ground.phase }, { on := 17, ground := Ground.phase }, { on := 18, ground := Ground.phase }], guard := none }) (v := ?_) rfl (by kernel_rfl) (by kernel_rfl) (by kernel_rfl) (fun _ _ _ h => h) (Or.inl ⟨by rfl, ?_⟩) (by assumption) ?_
    rotate_left 1
    · intro w hSw
      (try dsimp only at hSw)
      first | (go_simp; done) | (go_simp; with_reducible rfl)
    try simp only [Act.put, List.setIfInBounds_toArray, List.set_cons_zero, List.set_cons_succ]
    refine wpAnyH_done (by kernel_rfl) ?_ _
    refine NoPanic.normal ?_
    (try simp only [Act.put, List.setIfInBounds_toArray, List.set_cons_zero, List.set_cons_succ])
    go_wp2
    go_ret
    exact ⟨R, heb ▸ belowThen B2' bd⟩
  replace hd : (yd.size : Int) ≤ 40 := by omega
  by_cases hN : nodesP ds cop yn
  · have CN1 := dHide fun W hB => retB_yes (dUnhide CNw W hB) hN
    have HN := dHide hN
    clear CNw hN
    refine wp_region_noPanic ?_
    refine wp_region_held_drew (S := fun W => W.cell? ⟨eb + 1, 0, none⟩ = some (.slice ca ds.length cc) ∧ W.cell? ⟨eb + 1, 1, none⟩ = some (.int .i64 cop) ∧ W.cell? ⟨eb, 0, none⟩ = some (.string yd) ∧ W.cell? ⟨eb, 1, none⟩ = some (.slice ya yn.length yc) ∧ W.cell? ⟨eb, 2, none⟩ = some (.bool yb)) (by kernel_rfl) (by first | exact dUnhide PC _ (Below.refl _ _) | exact dUnhide PC _ bd | exact dUnhide PC _ b3' | exact dUnhide PC _ b4') (fun hHeld => ?_)
    refine wpAnyH_take (i := 0) (oi := { dst := some 5, op := Op.fieldAddr 72 (Operand.tmp 2) 0, type := 0, pos := "l08_writer.go:19", after := #[], guard := none }) (v := ?_) rfl (by kernel_rfl) (by kernel_rfl) (by kernel_rfl) (fun _ _ _ h => h) (Or.inl ⟨by rfl, ?_⟩) (by assumption) ?_
    rotate_left 1
    · intro w hSw
      (try dsimp only at hSw)
      first | (go_simp; done) | (go_simp; with_reducible rfl)
    try simp only [Act.put, List.setIfInBounds_toArray, List.set_cons_zero, List.set_cons_succ]
    refine wpAnyH_take (i := 1) (oi := { dst := some 6, op := Op.load 9 (Operand.tmp 5), type := 9, pos := "l08_writer.go:19", after := #[{ on := 0, ground := Ground.data }], guard := none }) (v := ?_) rfl (by kernel_rfl) (by kernel_rfl) (by kernel_rfl) (fun _ _ _ h => h) (Or.inl ⟨by rfl, ?_⟩) (by assumption) ?_
    rotate_left 1
    · intro w hSw
      (try dsimp only at hSw)
      first | (go_simp; done) | (go_simp; with_reducible rfl)
    try simp only [Act.put, List.setIfInBounds_toArray, List.set_cons_zero, List.set_cons_succ]
    refine wpAnyH_take (i := 2) (oi := { dst := some 7, op := Op.call { callee := Callee.builtin Builtin.len, args := #[Operand.tmp 6], argTypes := #[9] }, type := 3, pos := "l08_writer.go:19", after := #[{ on := 1, ground := Ground.data }], guard := none }) (v := ?_) rfl (by kernel_rfl) (by kernel_rfl) (by kernel_rfl) (fun _ _ _ h => h) (Or.inl ⟨by rfl, ?_⟩) (by assumption) ?_
    rotate_left 1
    · intro w hSw
      (try dsimp only at hSw)
      first | (go_simp; done) | (go_simp; with_reducible rfl)
    try simp only [Act.put, List.setIfInBounds_toArray, List.set_cons_zero, List.set_cons_succ]
    refine wpAnyH_take (i := 3) (oi := { dst := some 8, op := Op.binOp BinOp.leq 3 (Operand.tmp 7) (Operand.const (Value.int IntKind.i64 40)) 3, type := 4, pos := "l08_writer.go:19", after := #[{ on := 2, ground := Ground.data }], guard := none }) (v := ?_) rfl (by kernel_rfl) (by kernel_rfl) (by kernel_rfl) (fun _ _ _ h => h) (Or.inl ⟨by rfl, ?_⟩) (by assumption) ?_
    rotate_left 1
    · intro w hSw
      (try dsimp only at hSw)
      first | (go_simp; done) | (go_simp; with_reducible rfl)
    try simp only [Act.put, List.setIfInBounds_toArray, List.set_cons_zero, List.set_cons_succ]
    refine wpAnyH_take (i := 4) (oi := { dst := some 9, op := Op.move (Operand.tmp 8), type := 4, pos := "l08_writer.go:19", after := #[{ on := 3, ground := Ground.data }], guard := none }) (v := ?_) rfl (by kernel_rfl) (by kernel_rfl) (by kernel_rfl) (fun _ _ _ h => h) (Or.inl ⟨by rfl, ?_⟩) (by assumption) ?_
    rotate_left 1
    · intro w hSw
      (try dsimp only at hSw)
      first | (go_simp; done) | (go_simp; with_reducible rfl)
    try simp only [Act.put, List.setIfInBounds_toArray, List.set_cons_zero, List.set_cons_succ]
    refine wpAnyH_take (i := 5) (oi := { dst := some 10, op := Op.load 32 (Operand.tmp 3), type := 32, pos := "l08_writer.go:19", after := #[{ on := 4, ground := Ground.guard }], guard := some (4, true) }) (v := ?_) rfl (by kernel_rfl) (by kernel_rfl) (by kernel_rfl) (fun _ _ _ h => h) (Or.inl ⟨by rfl, ?_⟩) (by assumption) ?_
    rotate_left 1
    · intro w hSw
      (try dsimp only at hSw)
      first | (go_simp; done) | (go_simp; with_reducible rfl)
    try simp only [Act.put, List.setIfInBounds_toArray, List.set_cons_zero, List.set_cons_succ]
    refine wpAnyH_take (i := 6) (oi := { dst := some 11, op := Op.fieldAddr 72 (Operand.tmp 2) 1, type := 0, pos := "l08_writer.go:19", after := #[{ on := 4, ground := Ground.guard }], guard := some (4, true) }) (v := ?_) rfl (by kernel_rfl) (by kernel_rfl) (by kernel_rfl) (fun _ _ _ h => h) (Or.inl ⟨by rfl, ?_⟩) (by assumption) ?_
    rotate_left 1
    · intro w hSw
      (try dsimp only at hSw)
      first | (go_simp; done) | (go_simp; with_reducible rfl)
    try simp only [Act.put, List.setIfInBounds_toArray, List.set_cons_zero, List.set_cons_succ]
    refine wpAnyH_take (i := 7) (oi := { dst := some 12, op := Op.load 22 (Operand.tmp 11), type := 22, pos := "l08_writer.go:19", after := #[{ on := 6, ground := Ground.data }, { on := 4, ground := Ground.guard }], guard := some (4, true) }) (v := ?_) rfl (by kernel_rfl) (by kernel_rfl) (by kernel_rfl) (fun _ _ _ h => h) (Or.inl ⟨by rfl, ?_⟩) (by assumption) ?_
    rotate_left 1
    · intro w hSw
      (try dsimp only at hSw)
      first | (go_simp; done) | (go_simp; with_reducible rfl)
    try simp only [Act.put, List.setIfInBounds_toArray, List.set_cons_zero, List.set_cons_succ]
    refine wpAnyH_ready (rs := [8]) (by kernel_rfl) (by simp) ?_
    refine AllReadyH.cons (o := { dst := some 13, op := Op.call { callee := Callee.value (Operand.func 112), args := #[Operand.tmp 10, Operand.tmp 12], argTypes := #[32, 22] }, type := 4, pos := "l08_writer.go:19", after := #[{ on := 5, ground := Ground.data }, { on := 7, ground := Ground.data }, { on := 4, ground := Ground.chain }, { on := 4, ground := Ground.guard }], guard := some (4, true) }) rfl (fun K hK => ?_) AllReadyH.nil
    go_simp
    refine (dUnhide CN1 _ bd).mono ?_
    rintro e w3 ⟨rfl, b3⟩
    have b3' := belowThen bd b3
    (try go_wp2_with fail)
    refine hK.out _ _ (by first | exact dUnhide PC _ (Below.refl _ _) | exact dUnhide PC _ bd | exact dUnhide PC _ b3' | exact dUnhide PC _ b4') (fun hHeld => ?_)
    clear hK K
    try simp only [Act.put, List.setIfInBounds_toArray, List.set_cons_zero, List.set_cons_succ]
    refine wpAnyH_take (i := 9) (oi := { dst := some 14, op := Op.pick (Operand.tmp 9) (Operand.tmp 13) (Operand.const (Value.bool false)), type := 4, pos := "l08_writer.go:19", after := #[{ on := 4, ground := Ground.data }, { on := 8, ground := Ground.data }], guard := none }) (v := ?_) rfl (by kernel_rfl) (by kernel_rfl) (by kernel_rfl) (fun _ _ _ h => h) (Or.inl ⟨by rfl, ?_⟩) (by assumption) ?_
    rotate_left 1
    · intro w hSw
      (try dsimp only at hSw)
      first | (go_simp; done) | (go_simp; with_reducible rfl)
    try simp only [Act.put, List.setIfInBounds_toArray, List.set_cons_zero, List.set_cons_succ]
    refine wpAnyH_take (i := 10) (oi := { dst := some 15, op := Op.move (Operand.tmp 14), type := 4, pos := "l08_writer.go:19", after := #[{ on := 9, ground := Ground.data }, { on := 8, ground := Ground.chain }], guard := none }) (v := ?_) rfl (by kernel_rfl) (by kernel_rfl) (by kernel_rfl) (fun _ _ _ h => h) (Or.inl ⟨by rfl, ?_⟩) (by assumption) ?_
    rotate_left 1
    · intro w hSw
      (try dsimp only at hSw)
      first | (go_simp; done) | (go_simp; with_reducible rfl)
    try simp only [Act.put, List.setIfInBounds_toArray, List.set_cons_zero, List.set_cons_succ]
    refine wpAnyH_take (i := 11) (oi := { dst := some 16, op := Op.load 32 (Operand.tmp 3), type := 32, pos := "l08_writer.go:19", after := #[{ on := 10, ground := Ground.guard }], guard := some (10, true) }) (v := ?_) rfl (by kernel_rfl) (by kernel_rfl) (by kernel_rfl) (fun _ _ _ h => h) (Or.inl ⟨by rfl, ?_⟩) (by assumption) ?_
    rotate_left 1
    · intro w hSw
      (try dsimp only at hSw)
      first | (go_simp; done) | (go_simp; with_reducible rfl)
    try simp only [Act.put, List.setIfInBounds_toArray, List.set_cons_zero, List.set_cons_succ]
    refine wpAnyH_take (i := 12) (oi := { dst := some 17, op := Op.fieldAddr 72 (Operand.tmp 2) 1, type := 0, pos := "l08_writer.go:19", after := #[{ on := 10, ground := Ground.guard }], guard := some (10, true) }) (v := ?_) rfl (by kernel_rfl) (by kernel_rfl) (by kernel_rfl) (fun _ _ _ h => h) (Or.inl ⟨by rfl, ?_⟩) (by assumption) ?_
    rotate_left 1
    · intro w hSw
      (try dsimp only at hSw)
      first | (go_simp; done) | (go_simp; with_reducible rfl)
    try simp only [Act.put, List.setIfInBounds_toArray, List.set_cons_zero, List.set_cons_succ]
    refine wpAnyH_take (i := 13) (oi := { dst := some 18, op := Op.load 22 (Operand.tmp 17), type := 22, pos := "l08_writer.go:19", after := #[{ on := 12, ground := Ground.data }, { on := 10, ground := Ground.guard }], guard := some (10, true) }) (v := ?_) rfl (by kernel_rfl) (by kernel_rfl) (by kernel_rfl) (fun _ _ _ h => h) (Or.inl ⟨by rfl, ?_⟩) (by assumption) ?_
    rotate_left 1
    · intro w hSw
      (try dsimp only at hSw)
      first | (go_simp; done) | (go_simp; with_reducible rfl)
    try simp only [Act.put, List.setIfInBounds_toArray, List.set_cons_zero, List.set_cons_succ]
    refine wpAnyH_take (i := 15) (oi := { dst := some 20, op := Op.fieldAddr 72 (Operand.tmp 2) 2, type := 0, pos := "l08_writer.go:19", after := #[{ on := 10, ground := Ground.guard }], guard := some (10, true) }) (v := ?_) rfl (by kernel_rfl) (by kernel_rfl) (by kernel_rfl) (fun _ _ _ h => h) (Or.inl ⟨by rfl, ?_⟩) (by assumption) ?_
    rotate_left 1
    · intro w hSw
      (try dsimp only at hSw)
      first | (go_simp; done) | (go_simp; with_reducible rfl)
    try simp only [Act.put, List.setIfInBounds_toArray, List.set_cons_zero, List.set_cons_succ]
    refine wpAnyH_take (i := 16) (oi := { dst := some 21, op := Op.load 4 (Operand.tmp 20), type := 4, pos := "l08_writer.go:19", after := #[{ on := 15, ground := Ground.data }, { on := 10, ground := Ground.guard }], guard := some (10, true) }) (v := ?_) rfl (by kernel_rfl) (by kernel_rfl) (by kernel_rfl) (fun _ _ _ h => h) (Or.inl ⟨by rfl, ?_⟩) (by assumption) ?_
    rotate_left 1
    · intro w hSw
      (try dsimp only at hSw)
      first | (go_simp; done) | (go_simp; with_reducible rfl)
    try simp only [Act.put, List.setIfInBounds_toArray, List.set_cons_zero, List.set_cons_succ]
    refine wpAnyH_ready (rs := [14]) (by kernel_rfl) (by simp) ?_
    refine AllReadyH.cons (o := { dst := some 19, op := Op.call { callee := Callee.value (Operand.func 97), args := #[Operand.tmp 16, Operand.tmp 18], argTypes := #[32, 22] }, type := 4, pos := "l08_writer.go:19", after := #[{ on := 11, ground := Ground.data }, { on := 13, ground := Ground.data }, { on := 10, ground := Ground.chain }, { on := 10, ground := Ground.guard }], guard := some (10, true) }) rfl (fun K hK => ?_) AllReadyH.nil
    go_simp
    refine (dUnhide CHw _ b3').mono ?_
    rintro e w4 ⟨⟨bq, rfl, h4⟩, b4⟩
    have b4' := belowThen b3' b4
    (try go_wp2_with fail)
    refine hK.out _ _ (by first | exact dUnhide PC _ (Below.refl _ _) | exact dUnhide PC _ bd | exact dUnhide PC _ b3' | exact dUnhide PC _ b4') (fun hHeld => ?_)
    clear hK K
    try simp only [Act.put, List.setIfInBounds_toArray, List.set_cons_zero, List.set_cons_succ]
    refine wpAnyH_take (i := 17) (oi := { dst := some 22, op := Op.binOp BinOp.eql 4 (Operand.tmp 19) (Operand.tmp 21) 4, type := 4, pos := "l08_writer.go:19", after := #[{ on := 14, ground := Ground.data }, { on := 16, ground := Ground.data }, { on := 10, ground := Ground.guard }], guard := some (10, true) }) (v := ?_) rfl (by kernel_rfl) (by kernel_rfl) (by kernel_rfl) (fun _ _ _ h => h) (Or.inl ⟨by rfl, ?_⟩) (by assumption) ?_
    rotate_left 1
    · intro w hSw
      (try dsimp only at hSw)
      first | (go_simp; done) | (go_simp; with_reducible rfl)
    try simp only [Act.put, List.setIfInBounds_toArray, List.set_cons_zero, List.set_cons_succ]
    refine wpAnyH_take (i := 18) (oi := { dst := some 23, op := Op.pick (Operand.tmp 15) (Operand.tmp 22) (Operand.const (Value.bool false)), type := 4, pos := "l08_writer.go:19", after := #[{ on := 10, ground := Ground.data }, { on := 17, ground := Ground.data }], guard := none }) (v := ?_) rfl (by kernel_rfl) (by kernel_rfl) (by kernel_rfl) (fun _ _ _ h => h) (Or.inl ⟨by rfl, ?_⟩) (by assumption) ?_
    rotate_left 1
    · intro w hSw
      (try dsimp only at hSw)
      first | (go_simp; done) | (go_simp; with_reducible rfl)
    try simp only [Act.put, List.setIfInBounds_toArray, List.set_cons_zero, List.set_cons_succ]
    refine wpAnyH_take (i := 19) (oi := { dst := some 4, op := Op.assign (Operand.tmp 23), type := 4, pos := "l08_writer.go:19", after := #[{ on := 18, ground := Ground.data }, { on := 14, ground := Ground.chain }, { on := 0, ground := Ground.phase }, { on := 1, ground := Ground.phase }, { on := 2, ground := Ground.phase }, { on := 3, ground := Ground.phase }, { on := 4, ground := Ground.phase }, { on := 5, ground := Ground.phase }, { on := 6, ground := Ground.phase }, { on := 7, ground := Ground.phase }, { on := 8, ground := Ground.phase }, { on := 9, ground := Ground.phase }, { on := 10, ground := Ground.phase }, { on := 11, ground := Ground.phase }, { on := 12, ground := Ground.phase }, { on := 13, ground := Ground.phase }, { on := 14, ground := Ground.phase }, { on := 15, ground := Ground.phase }, { on := 16, ground := Ground.phase }, { on := 17, ground := Ground.phase }, { on := 18, ground := Ground.phase }], guard := none }) (v := ?_) rfl (by kernel_rfl) (by kernel_rfl) (by kernel_rfl) (fun _ _ _ h => h) (Or.inl ⟨by rfl, ?_⟩) (by assumption) ?_
    rotate_left 1
    · intro w hSw
      (try dsimp only at hSw)
      first | (go_simp; done) | (go_simp; with_reducible rfl)
    try simp only [Act.put, List.setIfInBounds_toArray, List.set_cons_zero, List.set_cons_succ]
    refine wpAnyH_done (by kernel_rfl) ?_ _
    refine NoPanic.normal ?_
    (try simp only [Act.put, List.setIfInBounds_toArray, List.set_cons_zero, List.set_cons_succ])
    have R : Hid (RetB P (.returned (.bool (bq == yb)))) := ⟨_, rfl, by
      rw [dUnhide PD, beq_iff_eq]
      constructor
      · intro h
        subst h
        exact ⟨by omega, dUnhide HN, h4.symm⟩
      · rintro ⟨-, -, h⟩
        rw [← h4] at h
        cases bq <;> cases yb <;> simp at h ⊢⟩
    have B4 := dHide (belowThen B2' b4')
    clear PD h4 X2 E2 PC
    go_wp2
    go_ret
    exact ⟨dUnhide R, dUnhide B4⟩
  · have CN1 := dHide fun W hB => retB_no (dUnhide CNw W hB) hN
    have R : RetB P (.returned (.bool false)) := RetB.no fun h => hN ((dUnhide PD).1 h).2.1
    clear PD CNw CHw
    refine wp_region_noPanic ?_
    refine wp_region_held_drew (S := fun W => W.cell? ⟨eb + 1, 0, none⟩ = some (.slice ca ds.length cc) ∧ W.cell? ⟨eb + 1, 1, none⟩ = some (.int .i64 cop) ∧ W.cell? ⟨eb, 0, none⟩ = some (.string yd) ∧ W.cell? ⟨eb, 1, none⟩ = some (.slice ya yn.length yc) ∧ W.cell? ⟨eb, 2, none⟩ = some (.bool yb)) (by kernel_rfl) (by first | exact dUnhide PC _ (Below.refl _ _) | exact dUnhide PC _ bd | exact dUnhide PC _ b3' | exact dUnhide PC _ b4') (fun hHeld => ?_)
    refine wpAnyH_take (i := 0) (oi := { dst := some 5, op := Op.fieldAddr 72 (Operand.tmp 2) 0, type := 0, pos := "l08_writer.go:19", after := #[], guard := none }) (v := ?_) rfl (by kernel_rfl) (by kernel_rfl) (by kernel_rfl) (fun _ _ _ h => h) (Or.inl ⟨by rfl, ?_⟩) (by assumption) ?_
    rotate_left 1
    · intro w hSw
      (try dsimp only at hSw)
      first | (go_simp; done) | (go_simp; with_reducible rfl)
    try simp only [Act.put, List.setIfInBounds_toArray, List.set_cons_zero, List.set_cons_succ]
    refine wpAnyH_take (i := 1) (oi := { dst := some 6, op := Op.load 9 (Operand.tmp 5), type := 9, pos := "l08_writer.go:19", after := #[{ on := 0, ground := Ground.data }], guard := none }) (v := ?_) rfl (by kernel_rfl) (by kernel_rfl) (by kernel_rfl) (fun _ _ _ h => h) (Or.inl ⟨by rfl, ?_⟩) (by assumption) ?_
    rotate_left 1
    · intro w hSw
      (try dsimp only at hSw)
      first | (go_simp; done) | (go_simp; with_reducible rfl)
    try simp only [Act.put, List.setIfInBounds_toArray, List.set_cons_zero, List.set_cons_succ]
    refine wpAnyH_take (i := 2) (oi := { dst := some 7, op := Op.call { callee := Callee.builtin Builtin.len, args := #[Operand.tmp 6], argTypes := #[9] }, type := 3, pos := "l08_writer.go:19", after := #[{ on := 1, ground := Ground.data }], guard := none }) (v := ?_) rfl (by kernel_rfl) (by kernel_rfl) (by kernel_rfl) (fun _ _ _ h => h) (Or.inl ⟨by rfl, ?_⟩) (by assumption) ?_
    rotate_left 1
    · intro w hSw
      (try dsimp only at hSw)
      first | (go_simp; done) | (go_simp; with_reducible rfl)
    try simp only [Act.put, List.setIfInBounds_toArray, List.set_cons_zero, List.set_cons_succ]
    refine wpAnyH_take (i := 3) (oi := { dst := some 8, op := Op.binOp BinOp.leq 3 (Operand.tmp 7) (Operand.const (Value.int IntKind.i64 40)) 3, type := 4, pos := "l08_writer.go:19", after := #[{ on := 2, ground := Ground.data }], guard := none }) (v := ?_) rfl (by kernel_rfl) (by kernel_rfl) (by kernel_rfl) (fun _ _ _ h => h) (Or.inl ⟨by rfl, ?_⟩) (by assumption) ?_
    rotate_left 1
    · intro w hSw
      (try dsimp only at hSw)
      first | (go_simp; done) | (go_simp; with_reducible rfl)
    try simp only [Act.put, List.setIfInBounds_toArray, List.set_cons_zero, List.set_cons_succ]
    refine wpAnyH_take (i := 4) (oi := { dst := some 9, op := Op.move (Operand.tmp 8), type := 4, pos := "l08_writer.go:19", after := #[{ on := 3, ground := Ground.data }], guard := none }) (v := ?_) rfl (by kernel_rfl) (by kernel_rfl) (by kernel_rfl) (fun _ _ _ h => h) (Or.inl ⟨by rfl, ?_⟩) (by assumption) ?_
    rotate_left 1
    · intro w hSw
      (try dsimp only at hSw)
      first | (go_simp; done) | (go_simp; with_reducible rfl)
    try simp only [Act.put, List.setIfInBounds_toArray, List.set_cons_zero, List.set_cons_succ]
    refine wpAnyH_take (i := 5) (oi := { dst := some 10, op := Op.load 32 (Operand.tmp 3), type := 32, pos := "l08_writer.go:19", after := #[{ on := 4, ground := Ground.guard }], guard := some (4, true) }) (v := ?_) rfl (by kernel_rfl) (by kernel_rfl) (by kernel_rfl) (fun _ _ _ h => h) (Or.inl ⟨by rfl, ?_⟩) (by assumption) ?_
    rotate_left 1
    · intro w hSw
      (try dsimp only at hSw)
      first | (go_simp; done) | (go_simp; with_reducible rfl)
    try simp only [Act.put, List.setIfInBounds_toArray, List.set_cons_zero, List.set_cons_succ]
    refine wpAnyH_take (i := 6) (oi := { dst := some 11, op := Op.fieldAddr 72 (Operand.tmp 2) 1, type := 0, pos := "l08_writer.go:19", after := #[{ on := 4, ground := Ground.guard }], guard := some (4, true) }) (v := ?_) rfl (by kernel_rfl) (by kernel_rfl) (by kernel_rfl) (fun _ _ _ h => h) (Or.inl ⟨by rfl, ?_⟩) (by assumption) ?_
    rotate_left 1
    · intro w hSw
      (try dsimp only at hSw)
      first | (go_simp; done) | (go_simp; with_reducible rfl)
    try simp only [Act.put, List.setIfInBounds_toArray, List.set_cons_zero, List.set_cons_succ]
    refine wpAnyH_take (i := 7) (oi := { dst := some 12, op := Op.load 22 (Operand.tmp 11), type := 22, pos := "l08_writer.go:19", after := #[{ on := 6, ground := Ground.data }, { on := 4, ground := Ground.guard }], guard := some (4, true) }) (v := ?_) rfl (by kernel_rfl) (by kernel_rfl) (by kernel_rfl) (fun _ _ _ h => h) (Or.inl ⟨by rfl, ?_⟩) (by assumption) ?_
    rotate_left 1
    · intro w hSw
      (try dsimp only at hSw)
      first | (go_simp; done) | (go_simp; with_reducible rfl)
    try simp only [Act.put, List.setIfInBounds_toArray, List.set_cons_zero, List.set_cons_succ]
    refine wpAnyH_ready (rs := [8]) (by kernel_rfl) (by simp) ?_
    refine AllReadyH.cons (o := { dst := some 13, op := Op.call { callee := Callee.value (Operand.func 112), args := #[Operand.tmp 10, Operand.tmp 12], argTypes := #[32, 22] }, type := 4, pos := "l08_writer.go:19", after := #[{ on := 5, ground := Ground.data }, { on := 7, ground := Ground.data }, { on := 4, ground := Ground.chain }, { on := 4, ground := Ground.guard }], guard := some (4, true) }) rfl (fun K hK => ?_) AllReadyH.nil
    go_simp
    refine (dUnhide CN1 _ bd).mono ?_
    rintro e w3 ⟨rfl, b3⟩
    have b3' := belowThen bd b3
    (try go_wp2_with fail)
    refine hK.out _ _ (by first | exact dUnhide PC _ (Below.refl _ _) | exact dUnhide PC _ bd | exact dUnhide PC _ b3' | exact dUnhide PC _ b4') (fun hHeld => ?_)
    clear hK K
    try simp only [Act.put, List.setIfInBounds_toArray, List.set_cons_zero, List.set_cons_succ]
    refine wpAnyH_take (i := 9) (oi := { dst := some 14, op := Op.pick (Operand.tmp 9) (Operand.tmp 13) (Operand.const (Value.bool false)), type := 4, pos := "l08_writer.go:19", after := #[{ on := 4, ground := Ground.data }, { on := 8, ground := Ground.data }], guard := none }) (v := ?_) rfl (by kernel_rfl) (by kernel_rfl) (by kernel_rfl) (fun _ _ _ h => h) (Or.inl ⟨by rfl, ?_⟩) (by assumption) ?_
    rotate_left 1
    · intro w hSw
      (try dsimp only at hSw)
      first | (go_simp; done) | (go_simp; with_reducible rfl)
    try simp only [Act.put, List.setIfInBounds_toArray, List.set_cons_zero, List.set_cons_succ]
    refine wpAnyH_take (i := 10) (oi := { dst := some 15, op := Op.move (Operand.tmp 14), type := 4, pos := "l08_writer.go:19", after := #[{ on := 9, ground := Ground.data }, { on := 8, ground := Ground.chain }], guard := none }) (v := ?_) rfl (by kernel_rfl) (by kernel_rfl) (by kernel_rfl) (fun _ _ _ h => h) (Or.inl ⟨by rfl, ?_⟩) (by assumption) ?_
    rotate_left 1
    · intro w hSw
      (try dsimp only at hSw)
      first | (go_simp; done) | (go_simp; with_reducible rfl)
    try simp only [Act.put, List.setIfInBounds_toArray, List.set_cons_zero, List.set_cons_succ]
    refine wpAnyH_take (i := 11) (oi := { dst := some 16, op := Op.load 32 (Operand.tmp 3), type := 32, pos := "l08_writer.go:19", after := #[{ on := 10, ground := Ground.guard }], guard := some (10, true) }) (v := undef) rfl (by kernel_rfl) (by kernel_rfl) (by kernel_rfl) (fun _ _ _ h => h) (Or.inr ⟨by rfl, rfl⟩) (by assumption) ?_
    try simp only [Act.put, List.setIfInBounds_toArray, List.set_cons_zero, List.set_cons_succ]
    refine wpAnyH_take (i := 12) (oi := { dst := some 17, op := Op.fieldAddr 72 (Operand.tmp 2) 1, type := 0, pos := "l08_writer.go:19", after := #[{ on := 10, ground := Ground.guard }], guard := some (10, true) }) (v := undef) rfl (by kernel_rfl) (by kernel_rfl) (by kernel_rfl) (fun _ _ _ h => h) (Or.inr ⟨by rfl, rfl⟩) (by assumption) ?_
    try simp only [Act.put, List.setIfInBounds_toArray, List.set_cons_zero, List.set_cons_succ]
    refine wpAnyH_take (i := 13) (oi := { dst := some 18, op := Op.load 22 (Operand.tmp 17), type := 22, pos := "l08_writer.go:19", after := #[{ on := 12, ground := Ground.data }, { on := 10, ground := Ground.guard }], guard := some (10, true) }) (v := undef) rfl (by kernel_rfl) (by kernel_rfl) (by kernel_rfl) (fun _ _ _ h => h) (Or.inr ⟨by rfl, rfl⟩) (by assumption) ?_
    try simp only [Act.put, List.setIfInBounds_toArray, List.set_cons_zero, List.set_cons_succ]
    refine wpAnyH_take (i := 14) (oi := { dst := some 19, op := Op.call { callee := Callee.value (Operand.func 97), args := #[Operand.tmp 16, Operand.tmp 18], argTypes := #[32, 22] }, type := 4, pos := "l08_writer.go:19", after := #[{ on := 11, ground := Ground.data }, { on := 13, ground := Ground.data }, { on := 10, ground := Ground.chain }, { on := 10, ground := Ground.guard }], guard := some (10, true) }) (v := undef) rfl (by kernel_rfl) (by kernel_rfl) (by kernel_rfl) (fun _ _ _ h => h) (Or.inr ⟨by rfl, rfl⟩) (by assumption) ?_
    try simp only [Act.put, List.setIfInBounds_toArray, List.set_cons_zero, List.set_cons_succ]
    refine wpAnyH_take (i := 15) (oi := { dst := some 20, op := Op.fieldAddr 72 (Operand.tmp 2) 2, type := 0, pos := "l08_writer.go:19", after := #[{ on := 10, ground := Ground.guard }], guard := some (10, true) }) (v := undef) rfl (by kernel_rfl) (by kernel_rfl) (by kernel_rfl) (fun _ _ _ h => h) (Or.inr ⟨by rfl, rfl⟩) (by assumption) ?_
    try simp only [Act.put, List.setIfInBounds_toArray, List.set_cons_zero, List.set_cons_succ]
    refine wpAnyH_take (i := 16) (oi := { dst := some 21, op := Op.load 4 (Operand.tmp 20), type := 4, pos := "l08_writer.go:19", after := #[{ on := 15, ground := Ground.data }, { on := 10, ground := Ground.guard }], guard := some (10, true) }) (v := undef) rfl (by kernel_rfl) (by kernel_rfl) (by kernel_rfl) (fun _ _ _ h => h) (Or.inr ⟨by rfl, rfl⟩) (by assumption) ?_
    try simp only [Act.put, List.setIfInBounds_toArray, List.set_cons_zero, List.set_cons_succ]
    refine wpAnyH_take (i := 17) (oi := { dst := some 22, op := Op.binOp BinOp.eql 4 (Operand.tmp 19) (Operand.tmp 21) 4, type := 4, pos := "l08_writer.go:19", after := #[{ on := 14, ground := Ground.data }, { on := 16, ground := Ground.data }, { on := 10, ground := Ground.guard }], guard := some (10, true) }) (v := undef) rfl (by kernel_rfl) (by kernel_rfl) (by kernel_rfl) (fun _ _ _ h => h) (Or.inr ⟨by rfl, rfl⟩) (by assumption) ?_
    try simp only [Act.put, List.setIfInBounds_toArray, List.set_cons_zero, List.set_cons_succ]
    refine wpAnyH_take (i := 18) (oi := { dst := some 23, op := Op.pick (Operand.tmp 15) (Operand.tmp 22) (Operand.const (Value.bool false)), type := 4, pos := "l08_writer.go:19", after := #[{ on := 10, ground := Ground.data }, { on := 17, ground := Ground.data }], guard := none }) (v := ?_) rfl (by kernel_rfl) (by kernel_rfl) (by kernel_rfl) (fun _ _ _ h => h) (Or.inl ⟨by rfl, ?_⟩) (by assumption) ?_
    rotate_left 1
    · intro w hSw
      (try dsimp only at hSw)
      first | (go_simp; done) | (go_simp; with_reducible rfl)
    try simp only [Act.put, List.setIfInBounds_toArray, List.set_cons_zero, List.set_cons_succ]
    refine wpAnyH_take (i := 19) (oi := { dst := some 4, op := Op.assign (Operand.tmp 23), type := 4, pos := "l08_writer.go:19", after := #[{ on := 18, ground := Ground.data }, { on := 14, ground := Ground.chain }, { on := 0, ground := Ground.phase }, { on := 1, ground := Ground.phase }, { on := 2, ground := Ground.phase }, { on := 3, ground := Ground.phase }, { on := 4, ground := Ground.phase }, { on := 5, ground := Ground.phase }, { on := 6, ground := Ground.phase }, { on := 7, ground := Ground.phase }, { on := 8, ground := Ground.phase }, { on := 9, ground := Ground.phase }, { on := 10, ground := Ground.phase }, { on := 11, ground := Ground.phase }, { on := 12, ground := Ground.phase }, { on := 13, ground := Ground.phase }, { on := 14, ground := Ground.phase }, { on := 15, ground := Ground.phase }, { on := 16, ground := Ground.phase }, { on := 17, ground := Ground.phase }, { on := 18, ground := Ground.phase }], guard := none }) (v := ?_) rfl (by kernel_rfl) (by kernel_rfl) (by kernel_rfl) (fun _ _ _ h => h) (Or.inl ⟨by rfl, ?_⟩) (by assumption) ?_
    rotate_left 1
    · intro w hSw
      (try dsimp only at hSw)
      first | (go_simp; done) | (go_simp; with_reducible rfl)
    try simp only [Act.put, List.setIfInBounds_toArray, List.set_cons_zero, List.set_cons_succ]
    refine wpAnyH_done (by kernel_rfl) ?_ _
    refine NoPanic.normal ?_
    (try simp only [Act.put, List.setIfInBounds_toArray, List.set_cons_zero, List.set_cons_succ])
    go_wp2
    go_ret
    exact ⟨R, heb ▸ belowThen B2' b3'⟩
end Go.Proofs.YtioocibgfhgkhaaGreatDoor
namespace Go.Proofs.YtioocibgfhgkhaaGreatDoor
open Go.ChangeShapes Go.WideShapes Go.ChangeAt Go.RowKit
set_option linter.unusedVariables false
set_option linter.unusedSimpArgs false
set_option maxRecDepth 100000

/-- Where the first is for which q holds, or -1. -/
def idxW {α : Type} (q : α → Bool) : List α → Int
  | [] => -1
  | e :: l => if q e then 0 else (if idxW q l = -1 then -1 else idxW q l + 1)
theorem idxW_ge {α : Type} (q : α → Bool) : ∀ l : List α, -1 ≤ idxW q l ∧ idxW q l < l.length
  | [] => by simp [idxW]
  | e :: l => by
    have := idxW_ge q l
    unfold idxW
    split
    · simp <;> omega
    · split <;> simp <;> omega
theorem idxW_none {α : Type} (q : α → Bool) : ∀ l : List α, (∀ i (h : i < l.length), q l[i] = false) → idxW q l = -1
  | [], _ => rfl
  | e :: l, h => by
    have h0 : q e = false := h 0 (by simp)
    have h1 := idxW_none q l fun i hi => h (i + 1) (by simpa using hi)
    unfold idxW
    rw [h0, h1]
    rfl
theorem idxW_at {α : Type} (q : α → Bool) : ∀ (l : List α) (k : Nat) (hk : k < l.length), (∀ i (h : i < l.length), i < k → q l[i] = false) → q l[k] = true → idxW q l = (k : Int)
  | [], k, hk, _, _ => by simp at hk
  | e :: l, 0, hk, _, ho => by
    have h0 : q e = true := ho
    unfold idxW
    rw [h0]
    rfl
  | e :: l, k + 1, hk, h, ho => by
    have h0 : q e = false := h 0 (by simp) (by omega)
    have h1 := idxW_at q l k (by simpa using hk) (fun i hi hik => h (i + 1) (by simpa using hi) (by omega)) (by simpa using ho)
    unfold idxW
    rw [h0, h1, if_neg (by simp), if_neg (by omega)]
    omega
theorem idxW_neg {α : Type} {q : α → Bool} {l : List α} : idxW q l = -1 ↔ ∀ e ∈ l, q e = false := by
  induction l with
  | nil => simp [idxW]
  | cons e l ih =>
    have hg := idxW_ge q l
    unfold idxW
    cases hq : q e with
    | true => simp [hq]
    | false =>
      rw [if_neg (by simp)]
      by_cases h : idxW q l = -1
      · rw [if_pos h]
        simp only [List.mem_cons, true_iff]
        rintro x (rfl | hx)
        · exact hq
        · exact ih.1 h x hx
      · rw [if_neg h]
        constructor
        · intro h'; omega
        · intro h'
          exact absurd (ih.2 fun x hx => h' x (List.mem_cons_of_mem _ hx)) h
set_option maxHeartbeats 2000000 in
/-- slices.IndexFunc: the function's own contract is handed in. -/
theorem indexFuncW_any (v : Value) (rs : List (Nst Wd)) (F : Nat) (caps : Array Value) (q : Wd → Bool) (w : World) (hF : ∀ args w, (callFunc F args).run Tryz.prog w = .ok (.enter F args) w) (hr : Rw 3 wdCl w v rs)
    (hq : ∀ W, Below w.heap.size w W → ∀ k (hk : k < rs.length), Calls Tryz.prog F (#[.agg #[.string rs[k].m.data, .slice rs[k].a rs[k].m.acks.length rs[k].c, .bool rs[k].m.done]] ++ caps) W fun e w' => e = .returned (.bool (q rs[k].m)) ∧ Below W.heap.size W w') :
    Calls Tryz.prog 126 #[v, .func (.func F) #[] caps] w fun e w' => e = .returned (.int .i64 (idxW q (rs.map Nst.m))) ∧ Below w.heap.size w w' := by
  have HV := dHide fun W (hb : Below w.heap.size w W) => hr.below hb
  have HQ := dHide hq
  have hl0 := hr.1
  obtain ⟨-, a, cap, rfl, -, -⟩ := hr
  have FN : Hid ((∀ i (h : i < rs.length), q rs[i].m = false) → idxW q (rs.map Nst.m) = -1) := fun h => idxW_none _ _ fun i hi => by rw [List.getElem_map]; exact h i (by simpa using hi)
  have FA : Hid (∀ k (hk : k < rs.length), (∀ i (h : i < rs.length), i < k → q rs[i].m = false) → q rs[k].m = true → idxW q (rs.map Nst.m) = (k : Int)) := fun k hk h1 h2 => idxW_at _ _ k (by simpa using hk) (fun i hi hik => by rw [List.getElem_map]; exact h1 i (by simpa using hi) hik) (by rw [List.getElem_map]; exact h2)
  generalize idxW q (rs.map Nst.m) = M at *
  clear hq
  go_enter Tryz.func126, Tryz.ntmps126
  go_wp2
  go_loopw [8] (fun x wr => ∃ k : Nat, x = .int .i64 (k : Int) ∧ k ≤ rs.length ∧ Hid (∀ i (h : i < rs.length), i < k → q rs[i].m = false) ∧ Below w.heap.size w wr) (fun x _ => rs.length - (intOf x).toNat)
  case atStart => exact ⟨0, rfl, Nat.zero_le _, fun i h h' => by omega, Below.refl _ _⟩
  case round =>
    obtain ⟨k, rfl, hk, hc, hb⟩ := hrel
    by_cases hlt : (k : Int) < (rs.length : Int)
    · have hkl : k < rs.length := by omega
      obtain ⟨b, off, rfl, he⟩ := (dUnhide HV _ hb).word hkl
      obtain ⟨c0, c1, c2⟩ := he k hkl
      have CE := dHide (dUnhide HQ wr hb k hkl)
      cases hcl : q rs[k].m with
      | false =>
        rw [hcl] at CE
        have H2 : Hid (∀ i (h : i < rs.length), i < k + 1 → q rs[i].m = false) := fun i h hi => by
          by_cases e : i = k
          · subst e; exact hcl
          · exact dUnhide hc i h (by omega)
        generalize rs[k] = y at *
        obtain ⟨ya, yc, yd, yn, yb⟩ := y
        simp only at *
        clear hc he
        go_wp2_with fail
        refine (dUnhide CE).mono ?_
        rintro e w1 ⟨rfl, b1⟩
        clear CE c0 c1 c2
        go_wp2
        go_roundw
        case rel => exact ⟨k + 1, by go_num, by omega, H2, belowThen hb b1⟩
        case measure => simp [intOf]; omega
      | true =>
        rw [hcl] at CE
        have e1 := dUnhide FA k hkl (dUnhide hc) hcl
        subst e1
        generalize rs[k] = y at *
        obtain ⟨ya, yc, yd, yn, yb⟩ := y
        simp only at *
        clear hc he FN FA
        go_wp2_with fail
        refine (dUnhide CE).mono ?_
        rintro e w1 ⟨rfl, b1⟩
        clear CE c0 c1 c2
        go_wp2
        go_ret
        exact ⟨rfl, belowThen hb b1⟩
    · have e1 := dUnhide FN fun i h => dUnhide hc i h (by omega)
      subst e1
      clear hc FN FA
      go_wp2
      go_ret
      exact ⟨rfl, hb⟩
/-- slices.ContainsFunc. -/
theorem containsFuncW_any (v : Value) (rs : List (Nst Wd)) (F : Nat) (caps : Array Value) (q : Wd → Bool) (w : World) (hF : ∀ args w, (callFunc F args).run Tryz.prog w = .ok (.enter F args) w) (hr : Rw 3 wdCl w v rs) (hl : rs.length ≤ 1048576)
    (hq : ∀ W, Below w.heap.size w W → ∀ k (hk : k < rs.length), Calls Tryz.prog F (#[.agg #[.string rs[k].m.data, .slice rs[k].a rs[k].m.acks.length rs[k].c, .bool rs[k].m.done]] ++ caps) W fun e w' => e = .returned (.bool (q rs[k].m)) ∧ Below W.heap.size W w') :
    Calls Tryz.prog 117 #[v, .func (.func F) #[] caps] w fun e w' => RetB (∃ e ∈ rs.map Nst.m, q e = true) e ∧ Below w.heap.size w w' := by
  have C1 := dHide (indexFuncW_any v rs F caps q w hF hr hq)
  have hg := idxW_ge q (rs.map Nst.m)
  have R : Hid (RetB (∃ e ∈ rs.map Nst.m, q e = true) (.returned (.bool (decide (0 ≤ idxW q (rs.map Nst.m)))))) := ⟨_, rfl, by
    rw [decide_eq_true_iff]
    constructor
    · intro h
      apply Classical.byContradiction
      intro hno
      have : idxW q (rs.map Nst.m) = -1 := idxW_neg.2 fun e he => by
        cases hqe : q e with
        | false => rfl
        | true => exact absurd ⟨e, he, hqe⟩ hno
      omega
    · rintro ⟨e, he, hqe⟩
      apply Classical.byContradiction
      intro hno
      have h1 : idxW q (rs.map Nst.m) = -1 := by omega
      have := idxW_neg.1 h1 e he
      rw [hqe] at this
      cases this⟩
  have hl2 : (rs.map Nst.m).length ≤ 1048576 := by simpa using hl
  generalize (rs.map Nst.m).length = n at *
  generalize idxW q (rs.map Nst.m) = M at *
  clear hF hr hq
  go_enter Tryz.func117, Tryz.ntmps117
  go_wp2_with fail
  refine (dUnhide C1).mono ?_
  rintro e w1 ⟨rfl, b1⟩
  clear C1
  go_wp2
  go_ret
  exact ⟨dUnhide R, b1⟩
theorem wordsOkFn (q : Wd → Bool) (p : Nst Wd) (sc : Value) (ds : List Int) (cop : Int) (bv b o : Nat) (w : World) (hv : w.cell? ⟨bv, 0, none⟩ = some (.pointer (some ⟨b, o, none⟩))) (hX : w.cell? ⟨b, o, none⟩ = some sc ∧ w.cell? ⟨b, o + 1, none⟩ = some (.int .i64 cop)) (hc : Ns w sc ds) (hn : Ns w (Sv Wd.acks p) p.m.acks) (had : allInt ds) (hld : ds.length ≤ 1048576) (c0 : -9223372036854775808 ≤ cop) (c1 : cop ≤ 9223372036854775807) (hf : fitWd p.m) (hlx : p.m.acks.length ≤ 1048576) (hq : q p.m = true ↔ ¬ wdP ds cop p.m) :
    Calls Tryz.prog 118 #[.agg #[.string p.m.data, .slice p.a p.m.acks.length p.c, .bool p.m.done], .pointer (some ⟨bv, 0, none⟩)] w fun e w' => e = .returned (.bool (q p.m)) ∧ Below w.heap.size w w' := by
  have ba : ∀ (w : World) o, Below w.heap.size w (w.alloc o) := fun w o => (Below.refl _ _).alloc (Nat.le_refl _) o
  have C1 := dHide fun W (hb : Below w.heap.size w W) => wordOk_any p sc ds cop W (hc.below hb) (hn.below hb) had hld c0 c1 hf hlx
  obtain ⟨pa, pc, yd, yn, yb⟩ := p
  simp only at *
  obtain ⟨-, ca, cc, rfl, -, -⟩ := hc
  obtain ⟨x0, x1⟩ := hX
  have bA := ba w (.cells #[.string yd, .slice pa yn.length pc, .bool yb] 72)
  have HC : Hid (∀ W, Below w.heap.size w W → W.cell? ⟨bv, 0, none⟩ = some (.pointer (some ⟨b, o, none⟩)) ∧ W.cell? ⟨b, o, none⟩ = some (.slice ca ds.length cc) ∧ W.cell? ⟨b, o + 1, none⟩ = some (.int .i64 cop)) := fun W hb => ⟨(hb.cell (p := ⟨bv, 0, none⟩) (dCell_lt hv)).trans hv, (hb.cell (p := ⟨b, o, none⟩) (dCell_lt x0)).trans x0, (hb.cell (p := ⟨b, o + 1, none⟩) (dCell_lt x1)).trans x1⟩
  have E1 := dHide (Bx.new w [.string yd, .slice pa yn.length pc, .bool yb] 72)
  generalize wdP ds cop ⟨yd, yn, yb⟩ = P at *
  generalize q ⟨yd, yn, yb⟩ = qb at *
  clear hn x0 x1 hv
  have HQ := dHide hq
  clear hq
  go_enter Tryz.func118, Tryz.ntmps118
  go_wp2_with fail
  generalize w.alloc (.cells #[.string yd, .slice pa yn.length pc, .bool yb] 72) = w1 at *
  have bd := belowThen bA (show Below w1.heap.size w1 w1.drew from (Below.refl _ _).drew)
  have p0 := dUnhide HC w1 bA
  have pS := And.intro p0 (And.intro (dUnhide E1 0 _ rfl) (And.intro (dUnhide E1 1 _ rfl) (dUnhide E1 2 _ rfl)))
  go_region_held3 (fun W => (W.cell? ⟨bv, 0, none⟩ = some (.pointer (some ⟨b, o, none⟩)) ∧ W.cell? ⟨b, o, none⟩ = some (.slice ca ds.length cc) ∧ W.cell? ⟨b, o + 1, none⟩ = some (.int .i64 cop)) ∧ W.cell? ⟨w.heap.size, 0, none⟩ = some (.string yd) ∧ W.cell? ⟨w.heap.size, 1, none⟩ = some (.slice pa yn.length pc) ∧ W.cell? ⟨w.heap.size, 2, none⟩ = some (.bool yb)) (first | exact qS | exact pS | go_keep)
    (first
      | (go_at_call 119; refine (dUnhide C1 _ bd).mono ?_; rintro e w5 ⟨⟨b1, rfl, hb1⟩, b5⟩; have B5 := belowThen bd b5; have E5 := (dUnhide E1).below (belowThen (show Below w1.heap.size w1 w1.drew from (Below.refl _ _).drew) b5); have qS := And.intro (dUnhide HC w5 B5) (And.intro (E5 0 _ rfl) (And.intro (E5 1 _ rfl) (E5 2 _ rfl)))))
  all_goals
    have R : Hid ((!b1) = qb) := by
      rw [Hid]
      cases b1 with
      | true =>
        cases qb with
        | false => rfl
        | true => exact absurd (hb1.1 rfl) ((dUnhide HQ).1 rfl)
      | false => exact ((dUnhide HQ).2 fun h => by have := hb1.2 h; cases this).symm
    clear C1 hb1 HQ
    go_wp2
    go_ret
    exact ⟨by rw [← dUnhide R]; rfl, B5⟩
set_option maxHeartbeats 4000000 in
theorem wordsOk_any (b o cap : Nat) (a : Option Addr) (sc : Value) (ds : List Int) (cop : Int) (rs : List (Nst Wd)) (w : World) (hX : w.cell? ⟨b, o, none⟩ = some sc ∧ w.cell? ⟨b, o + 1, none⟩ = some (.int .i64 cop)) (hcell : w.cell? ⟨b, o + 2, none⟩ = some (.slice a rs.length cap)) (hc : Ns w sc ds) (hr : Rw 3 wdCl w (.slice a rs.length cap) rs) (hn : ∀ p ∈ rs, Ns w (Sv Wd.acks p) p.m.acks) (had : allInt ds) (hld : ds.length ≤ 1048576) (c0 : -9223372036854775808 ≤ cop) (c1 : cop ≤ 9223372036854775807) (hl : rs.length ≤ 1048576) (hf : ∀ k (hk : k < rs.length), rs[k].m.acks.length ≤ 1048576 ∧ fitWd rs[k].m) :
    Calls Tryz.prog 108 #[.pointer (some ⟨b, o, none⟩)] w fun e w' => RetB (rs.length ≤ 60 ∧ (∀ e ∈ rs.map Nst.m, wdP ds cop e) ∧ openN (rs.map Nst.m) ≤ 6) e ∧ Below w.heap.size w w' := by
  have ba : ∀ (w : World) o, Below w.heap.size w (w.alloc o) := fun w o => (Below.refl _ _).alloc (Nat.le_refl _) o
  obtain ⟨bb, off, ha⟩ : ∃ bb off, rs = [] ∨ a = some ⟨bb, off, none⟩ := by
    obtain ⟨-, a', cap', e, -, h⟩ := hr
    cases e
    rcases h with h | ⟨bb, off, rfl, -⟩
    · exact ⟨0, 0, .inl h⟩
    · exact ⟨bb, off, .inr rfl⟩
  have HCw := dHide fun W (hb : Below w.heap.size w W) => (hb.cell (p := ⟨b, o + 2, none⟩) (dCell_lt hcell)).trans hcell
  have CO := dHide fun W (hb : Below w.heap.size w W) => winOpen_any b o bb off cap a rs W (dUnhide HCw W hb) (hr.below hb) ha hl
  obtain ⟨q, hq⟩ : ∃ q : Wd → Bool, ∀ y, q y = true ↔ ¬ wdP ds cop y := ⟨fun y => @decide (¬ wdP ds cop y) (Classical.propDecidable _), fun y => @decide_eq_true_iff _ (Classical.propDecidable _)⟩
  have CF := dHide fun W (hb : Below w.heap.size w W) (hV : ∀ W', Below W.heap.size W W' → W'.cell? ⟨w.heap.size, 0, none⟩ = some (.pointer (some ⟨b, o, none⟩))) => containsFuncW_any _ rs 118 #[.pointer (some ⟨w.heap.size, 0, none⟩)] q W Tryz.call118 (hr.below hb) hl (fun W' hb' k hk => wordsOkFn q rs[k] sc ds cop w.heap.size b o W' (hV W' hb') ⟨((belowThen hb hb').cell (p := ⟨b, o, none⟩) (dCell_lt hX.1)).trans hX.1, ((belowThen hb hb').cell (p := ⟨b, o + 1, none⟩) (dCell_lt hX.2)).trans hX.2⟩ (hc.below (belowThen hb hb')) ((hn _ (List.getElem_mem hk)).below (belowThen hb hb')) had hld c0 c1 (hf k hk).2 (hf k hk).1 (hq _))
  have PE : Hid ((∃ e ∈ rs.map Nst.m, q e = true) ↔ ¬ ∀ e ∈ rs.map Nst.m, wdP ds cop e) := by
    constructor
    · rintro ⟨e, he, h⟩ ha
      exact (hq e).1 h (ha e he)
    · intro h
      apply Classical.byContradiction
      intro hno
      refine h fun e he => Classical.byContradiction fun hne => hno ⟨e, he, (hq e).2 hne⟩
  have OL : Hid ((opI (rs.map Nst.m) rs.length).length = openN (rs.map Nst.m)) := by
    have h1 := opI_len (rs.map Nst.m) rs.length (by simp)
    rw [List.take_of_length_le (by simp)] at h1
    exact h1
  generalize (∃ e ∈ rs.map Nst.m, q e = true) = PX at *
  generalize (∀ e ∈ rs.map Nst.m, wdP ds cop e) = PY at *
  generalize openN (rs.map Nst.m) = on at *
  have bA := ba w (.cells #[.pointer (some ⟨b, o, none⟩)] 176)
  have V1 := dHide (Bx.new w [.pointer (some ⟨b, o, none⟩)] 176)
  have c2 := dUnhide HCw _ bA
  clear hX hc hr hn hf hq hcell ha
  by_cases h60 : 60 < (rs.length : Int)
  · have R : RetB (rs.length ≤ 60 ∧ PY ∧ on ≤ 6) (.returned (.bool false)) := RetB.no fun h => by have := h.1; omega
    clear CO CF
    go_enter Tryz.func108, Tryz.ntmps108
    go_wp2
    go_ret
    exact ⟨R, bA⟩
  have C1 := dHide (dUnhide CO _ bA)
  go_enter Tryz.func108, Tryz.ntmps108
  go_wp2_with fail
  generalize w.alloc (.cells #[.pointer (some ⟨b, o, none⟩)] 176) = w1 at *
  refine (dUnhide C1).mono ?_
  rintro e w2 ⟨⟨u, rfl, A2⟩, b2⟩
  obtain ⟨ua, uc, rfl⟩ := ApR.slice elemO A2
  have el : ((opI (rs.map Nst.m) rs.length).map (adW bb off)).length = on := by rw [List.length_map]; exact dUnhide OL
  rw [el]
  have B2 := belowThen bA b2
  have V2 := dHide ((dUnhide V1).below b2)
  have v0 := dUnhide V2 0 _ rfl
  clear c2
  have c2 := dUnhide HCw _ B2
  clear C1 CO V1 b2 bA A2 el
  by_cases h6 : 6 < (on : Int)
  · have R : RetB (rs.length ≤ 60 ∧ PY ∧ on ≤ 6) (.returned (.bool false)) := RetB.no fun h => by have := h.2.2; omega
    clear CF
    go_wp2
    go_ret
    exact ⟨R, B2⟩
  have C3 := dHide (dUnhide CF w2 B2 fun W' hb' => (dUnhide V2).below hb' 0 _ rfl)
  clear CF
  go_wp2_with fail
  refine (dUnhide C3).mono ?_
  rintro e w3 ⟨⟨b3, rfl, h3⟩, b3'⟩
  have R : Hid (RetB (rs.length ≤ 60 ∧ PY ∧ on ≤ 6) (.returned (.bool (!b3)))) := ⟨_, rfl, by
    have h5 := (dUnhide PE)
    cases b3 with
    | true => exact ⟨fun h => by simp at h, fun h => absurd h.2.1 (h5.1 (h3.1 rfl))⟩
    | false => exact ⟨fun _ => ⟨by omega, Classical.byContradiction (fun hno => by have := h3.2 (h5.2 hno); cases this), by omega⟩, fun _ => rfl⟩⟩
  have B3 := belowThen B2 b3'
  clear h3 C3 PE
  go_wp2
  go_ret
  exact ⟨dUnhide R, B3⟩
theorem wrP_iff (ds : List Int) (cop : Int) (m : Wt) : wrP ds cop m ↔ cfgP ds cop ∧ (1 ≤ m.epoch ∧ m.epoch ≤ 30) ∧ m.words.length ≤ 60 ∧ (∀ e ∈ m.words, wdP ds cop e) ∧ openN m.words ≤ 6 := by
  unfold wrP
  constructor
  · rintro ⟨h1, h2, h3, h4, h5⟩
    exact ⟨h1, h2, h3, fun e he => by obtain ⟨i, hi, rfl⟩ := List.mem_iff_getElem.1 he; exact h4 i hi, h5⟩
  · rintro ⟨h1, h2, h3, h4, h5⟩
    exact ⟨h1, h2, h3, fun i hi => h4 _ (List.getElem_mem hi), h5⟩
set_option maxHeartbeats 4000000 in
theorem implWriterOk_any (cv v : Value) (c : List Int × Int) (m : Wt) (w : World) (hc : RdConfig cv c w) (hv : RdWriter v m w) (okc : okConfig c) (ok : okWriter m) (hsc : sizConfig c ≤ 1048576) (hs : sizWriter m ≤ 1048576) :
    Calls Tryz.prog 60 #[cv, v] w fun e w' => RetB (wrP c.1 c.2 m) e ∧ Below w.heap.size w w' := by
  have ba : ∀ (w : World) o, Below w.heap.size w (w.alloc o) := fun w o => (Below.refl _ _).alloc (Nat.le_refl _) o
  obtain ⟨ds, cop⟩ := c
  obtain ⟨sc, rfl, hc⟩ := hc
  obtain ⟨sv, rfl, rs, hm, hr, hn⟩ := hv
  obtain ⟨had, c0, c1⟩ := okc
  unfold sizConfig at hsc
  simp only at *
  have em : m.words.length = rs.length := by rw [← hm, List.length_map]
  have hle : rs.length ≤ 1048576 := by unfold sizWriter sizWordS at hs; omega
  have HL : ∀ k (hk : k < rs.length), rs[k].m.acks.length ≤ 1048576 ∧ fitWd rs[k].m := fun k hk => by
    have h1 := sumW_mem (ms := rs.map Nst.m) (k := k) (by simpa using hk)
    rw [List.getElem_map] at h1
    unfold sizWriter sizWordS at hs
    rw [← hm] at hs
    exact ⟨by omega, ok.1 _ (by rw [← hm]; exact List.mem_map.2 ⟨rs[k], List.getElem_mem hk, rfl⟩)⟩
  have PD := wrP_iff ds cop m
  have CC := dHide fun W (hb : Below w.heap.size w W) => implCfg_any sc ds cop W (hc.below hb) had hsc c0 c1
  have HCS := hc
  have HRS := hr
  obtain ⟨-, ca, cc, rfl, -, -⟩ := hc
  obtain ⟨-, a, cap, rfl, -, -⟩ := hr
  have CW := dHide fun W b (hb : Below w.heap.size w W) (hX : W.cell? ⟨b, 1, none⟩ = some (.slice ca ds.length cc) ∧ W.cell? ⟨b, 1 + 1, none⟩ = some (.int .i64 cop)) (h3 : W.cell? ⟨b, 1 + 2, none⟩ = some (.slice a rs.length cap)) => wordsOk_any b 1 cap a _ ds cop rs W hX h3 (HCS.below hb) (HRS.below hb) (fun p hp => (hn p hp).below hb) had hsc c0 c1 hle HL
  rw [hm] at CW
  rw [em] at PD
  generalize wrP ds cop m = P at *
  generalize (∀ e ∈ m.words, wdP ds cop e) = PY at *
  generalize openN m.words = on at *
  generalize m.epoch = ep at *
  have CO := dHide fun W => writingOf_any ca ds.length cc cop ep a rs.length cap W
  replace PD := dHide PD
  clear hm hs ok em HL HCS HRS hn hle
  have bA := belowThen (ba w (.cells #[.slice ca ds.length cc, .int .i64 cop] 32)) (ba _ (.cells #[.int .i64 ep, .slice a rs.length cap] 44))
  go_enter Tryz.func60, Tryz.ntmps60
  go_wp2_with fail
  refine (dUnhide CO _).mono ?_
  rintro e w1 ⟨⟨b, rfl, X1⟩, b1⟩
  have B1 := belowThen bA b1
  clear CO bA b1
  have CI : Calls Tryz.prog 87 #[.pointer (some ⟨b, 0, none⟩)] w1 fun e w' => RetB P e ∧ Below w.heap.size w w' := by
    have x0 := (X1.2 0 _ rfl).1
    have x1 := (X1.2 1 _ rfl).1
    have x2 := (X1.2 2 _ rfl).1
    go_enter Tryz.func87, Tryz.ntmps87
    go_wp2_with fail
    refine (dUnhide CC _ B1).mono ?_
    rintro e w2 ⟨⟨b2, rfl, h2⟩, bl2⟩
    have B2 := belowThen B1 bl2
    have X2 := X1.below bl2
    clear x0 x1 x2 X1 bl2 CC B1
    have x0 := (X2.2 0 _ rfl).1
    cases b2
    · have R : RetB P (.returned (.bool false)) := RetB.no fun h => by have := h2.2 ((dUnhide PD).1 h).1; cases this
      clear h2
      go_wp2
      go_ret
      exact ⟨R, B2⟩
    have H2 := dHide (h2.1 rfl)
    clear h2
    by_cases e1 : ¬ 1 ≤ ep
    · have R : RetB P (.returned (.bool false)) := RetB.no fun h => e1 ((dUnhide PD).1 h).2.1.1
      go_wp2
      go_ret
      exact ⟨R, B2⟩
    replace e1 : 1 ≤ ep := by omega
    by_cases e2 : ¬ ep ≤ 30
    · have R : RetB P (.returned (.bool false)) := RetB.no fun h => e2 ((dUnhide PD).1 h).2.1.2
      go_wp2
      go_ret
      exact ⟨R, B2⟩
    replace e2 : ep ≤ 30 := by omega
    have C3 := dHide (dUnhide CW w2 b B2 ⟨(X2.2 1 _ rfl).1, (X2.2 2 _ rfl).1⟩ (X2.2 3 _ rfl).1)
    clear CW X2
    go_wp2_with fail
    refine (dUnhide C3).mono ?_
    rintro e w3 ⟨⟨b3, rfl, h3⟩, bl3⟩
    have R : Hid (RetB P (.returned (.bool b3))) := ⟨_, rfl, fun h => (dUnhide PD).2 ⟨dUnhide H2, ⟨e1, e2⟩, h3.1 h⟩, fun h => h3.2 ((dUnhide PD).1 h).2.2⟩
    have B3 := belowThen B2 bl3
    clear h3 C3 PD H2
    go_wp2
    go_ret
    exact ⟨dUnhide R, B3⟩
  replace CI := dHide CI
  clear CC CW PD X1
  go_wp2_with fail
  refine (dUnhide CI).mono ?_
  rintro e w2 ⟨⟨b2, rfl, h2⟩, B2⟩
  have R : Hid (RetB P (.returned (.bool b2))) := ⟨_, rfl, h2⟩
  clear h2 CI
  go_wp2
  go_ret
  exact ⟨dUnhide R, B2⟩
end Go.Proofs.YtioocibgfhgkhaaGreatDoor
namespace Go.Proofs.YtioocibgfhgkhaaGreatDoor
open Go.ChangeShapes Go.WideShapes Go.ChangeAt Go.RowKit
set_option linter.unusedVariables false
set_option linter.unusedSimpArgs false
set_option maxRecDepth 100000

/-- How a writer lasts: three functions. -/
def writerFormL (cb : Nat) : List Value := [.func (.func 59) #[] #[.pointer (some ⟨cb, 0, none⟩)], .func (.func 61) #[] #[], .func (.func 62) #[] #[.pointer (some ⟨cb, 0, none⟩)]]
set_option maxHeartbeats 2000000 in
theorem writerForm_any (a : Option Addr) (n cap : Nat) (x : Int) (w : World) :
    Calls Tryz.prog 38 #[.agg #[.slice a n cap, .int .i64 x]] w fun e w' => ∃ cb, e = .returned (.agg (writerFormL cb).toArray) ∧ Bx w' cb [.slice a n cap, .int .i64 x] ∧ Below w.heap.size w w' := by
  have X0 := Bx.new w [.slice a n cap, .int .i64 x] 32
  have b0 : Below w.heap.size w (w.alloc (.cells #[.slice a n cap, .int .i64 x] 32)) := (Below.refl _ _).alloc (Nat.le_refl _) _
  have Y0 := BxZ.new (w.alloc (.cells #[.slice a n cap, .int .i64 x] 32)) [.nilFunc, .nilFunc, .nilFunc] 79 (B := (w.alloc (.cells #[.slice a n cap, .int .i64 x] 32)).heap.size) (Nat.le_refl _)
  have b1 : Below (w.alloc (.cells #[.slice a n cap, .int .i64 x] 32)).heap.size (w.alloc (.cells #[.slice a n cap, .int .i64 x] 32)) ((w.alloc (.cells #[.slice a n cap, .int .i64 x] 32)).alloc (.cells #[.nilFunc, .nilFunc, .nilFunc] 79)) := (Below.refl _ _).alloc (Nat.le_refl _) _
  have hs : (w.alloc (.cells #[.slice a n cap, .int .i64 x] 32)).heap.size = w.heap.size + 1 := by simp
  have X1 := X0.below b1
  have B1 := belowThen b0 b1
  rw [hs] at Y0
  clear b0 X0 b1
  go_enter Tryz.func38, Tryz.ntmps38
  go_wp2_with (refine wp_putW rfl _ _ _ rfl rfl (writerFormL w.heap.size) rfl rfl Y0 rfl (by kernel_rfl) (by kernel_rfl) ?_; intro w2 Y2 s2 g2 b2)
  refine bodyPost_ret (results_box Tryz.results38 _ _ _ (writerFormL w.heap.size) _ rfl Y2.bx Tryz.underlying79 rfl (by kernel_rfl)) rfl ⟨_, rfl, X1.off g2 (by omega), B1.trans (b2.mono (by omega))⟩
end Go.Proofs.YtioocibgfhgkhaaGreatDoor
namespace Go.Proofs.YtioocibgfhgkhaaGreatDoor
open Go.ChangeShapes Go.WideShapes Go.ChangeAt Go.RowKit
set_option linter.unusedVariables false
set_option linter.unusedSimpArgs false
set_option maxRecDepth 100000

set_option maxHeartbeats 2000000 in
theorem writerForm1_any (c : List Int × Int) (ca : Option Addr) (cc : Nat) (m : Wt) (a : Option Addr) (cap cb : Nat) (w : World) (hc : RdConfig (.agg #[.slice ca c.1.length cc, .int .i64 c.2]) c w) (hv : RdWriter (.agg #[.int .i64 m.epoch, .slice a m.words.length cap]) m w) (okc : okConfig c) (ok : okWriter m) (hsc : sizConfig c ≤ 1048576) (hs : sizWriter m ≤ 1048576) (X : Bx w cb [.slice ca c.1.length cc, .int .i64 c.2]) :
    Calls Tryz.prog 59 #[.agg #[.int .i64 m.epoch, .slice a m.words.length cap], .pointer (some ⟨cb, 0, none⟩)] w fun r w' => RetB (wrP c.1 c.2 m) r ∧ Below w.heap.size w w' := by
  have ba : ∀ (w : World) o, Below w.heap.size w (w.alloc o) := fun w o => (Below.refl _ _).alloc (Nat.le_refl _) o
  have CO := dHide fun W (hb : Below w.heap.size w W) => implWriterOk_any _ _ c m W (hc.below hb) (hv.below hb) okc ok hsc hs
  generalize wrP c.1 c.2 m = P at *
  have B0 := ba w (.cells #[.int .i64 m.epoch, .slice a m.words.length cap] 44)
  have X1 := X.below B0
  have k0 := X1 0 _ rfl
  have k1 := X1 1 _ rfl
  clear hv hc ba X X1
  go_enter Tryz.func59, Tryz.ntmps59
  go_wp2_with fail
  refine (dUnhide CO _ B0).mono ?_
  rintro e w1 ⟨⟨b1, rfl, h1⟩, hb1⟩
  have R : RetB P (.returned (.bool b1)) := ⟨b1, rfl, h1⟩
  have B1 := belowThen B0 hb1
  clear CO hb1 B0 h1 k0 k1
  go_wp2
  go_ret
  exact ⟨R, B1⟩
theorem wdAcks_len (m : Wt) (hs : sizWriter m ≤ 1048576) : ∀ e ∈ m.words, e.acks.length ≤ 1048576 := fun e he => by
  obtain ⟨i, hi, rfl⟩ := List.getElem_of_mem he
  have h1 := sumW_mem hi
  unfold sizWriter sizWordS at hs
  omega
theorem wds_take_len (m : Wt) (hs : sizWriter m ≤ 1048576) (hev : ∀ e ∈ m.words, natI e.acks ∧ e.data.size ≤ 40) (k : Nat) : ((m.words.take k).flatMap wdB).length ≤ 100000000 := by
  have h1 := wdsB_len (m.words.take k)
  have h2 := sumW_le m.words k
  have h4 := sumX_le m.words k
  have h3 : (m.words.take k).length ≤ m.words.length := by rw [List.length_take]; omega
  unfold sizWriter sizWordS at hs
  omega
end Go.Proofs.YtioocibgfhgkhaaGreatDoor
namespace Go.Proofs.YtioocibgfhgkhaaGreatDoor
open Go.ChangeShapes Go.WideShapes Go.ChangeAt Go.RowKit
set_option linter.unusedVariables false
set_option linter.unusedSimpArgs false
set_option maxRecDepth 100000

/-- Words of which the first k are marked. -/
def mkFW (k0 : Nat) (rs : List (Nst Wd)) (k : Nat) (i : Nat) : Nst Wd :=
  if i < k then ⟨(rs.getD i zeroWd).a, (rs.getD i zeroWd).c, mkWd (k0 + cntWordS ((rs.map Nst.m).take i)) (rs.getD i zeroWd).m⟩ else rs.getD i zeroWd
theorem mkFW_nodes (k0 : Nat) (rs : List (Nst Wd)) (k i : Nat) : (mkFW k0 rs k i).m.acks.length = (rs.getD i zeroWd).m.acks.length ∧ Sv Wd.acks (mkFW k0 rs k i) = Sv Wd.acks (rs.getD i zeroWd) := by
  unfold mkFW
  split
  · have e : (mkWd (k0 + cntWordS ((rs.map Nst.m).take i)) (rs.getD i zeroWd).m).acks.length = (rs.getD i zeroWd).m.acks.length := marksN_len _ _
    refine ⟨e, ?_⟩
    unfold Sv
    simp only [e]
  · exact ⟨rfl, rfl⟩
/-- The state of marking. -/
def MarkW (lo hi k0 : Nat) (w wr : World) (b off : Nat) (rs : List (Nst Wd)) (k : Nat) : Prop :=
  RowG 3 wdCl wr b off rs.length (mkFW k0 rs k) ∧ (∀ i, i < rs.length → OwN lo hi (Sv Wd.acks (mkFW k0 rs k i)) (mkFW k0 rs k i).m.acks wr) ∧ Wr lo hi w wr ∧ hi ≤ wr.heap.size
/-- One word is marked. -/
theorem MarkW.step {lo hi k0 : Nat} {w wr w1 w2 : World} {b off k : Nat} {rs : List (Nst Wd)} {v : Value} (h : MarkW lo hi k0 w wr b off rs k) (hk : k < rs.length) (hb1 : lo ≤ b) (hb2 : b < hi) (hA : Apart Wd.acks v rs) (hv : blockOf v = b) (hB : Below wr.heap.size wr w1)
    (hO : OwN lo hi (Sv Wd.acks rs[k]) (marksN (k0 + cntWordS ((rs.map Nst.m).take k) + 1) rs[k].m.acks.length) w2) (b1 b2 : Nat) (hW : Wr b1 b2 (w1.setCell ⟨b, off + k * 3, none⟩ (.string (markU (k0 + cntWordS ((rs.map Nst.m).take k))))) w2) (hd : (rs[k].m.acks = [] ∧ b1 = 0 ∧ b2 = 0) ∨ (rs[k].m.acks ≠ [] ∧ b1 = blockOf (Sv Wd.acks rs[k]) ∧ b2 = blockOf (Sv Wd.acks rs[k]) + 1)) (hW' : Wr lo hi (w1.setCell ⟨b, off + k * 3, none⟩ (.string (markU (k0 + cntWordS ((rs.map Nst.m).take k))))) w2) :
    RowG 3 wdCl w2 b off rs.length (putG (mkFW k0 rs k) k ⟨rs[k].a, rs[k].c, ⟨markU (k0 + cntWordS ((rs.map Nst.m).take k)), rs[k].m.acks, rs[k].m.done⟩⟩) ∧ MarkW lo hi k0 w (w2.setCell ⟨b, off + k * 3 + 2, none⟩ (.bool ((k0 + cntWordS ((rs.map Nst.m).take k) + 1 + rs[k].m.acks.length) % 3 == 0))) b off rs (k + 1) := by
  obtain ⟨h1, h2, h3, h4⟩ := h
  have ek : mkFW k0 rs k k = rs[k] := by unfold mkFW; rw [if_neg (by omega), getD_lt _ hk]
  have ek1 : mkFW k0 rs (k + 1) k = ⟨rs[k].a, rs[k].c, mkWd (k0 + cntWordS ((rs.map Nst.m).take k)) rs[k].m⟩ := by unfold mkFW; rw [if_pos (by omega), getD_lt _ hk]
  have ei : ∀ i, i ≠ k → mkFW k0 rs (k + 1) i = mkFW k0 rs k i := fun i hi => by
    unfold mkFW
    by_cases e : i < k
    · rw [if_pos (by omega), if_pos e]
    · rw [if_neg (by omega), if_neg e]
  generalize hK : k0 + cntWordS ((rs.map Nst.m).take k) = K at *
  have hs1 := hB.size
  have r0 := (h1.below hB).put wdCl_len hk 0 (by decide) (.string (markU K)) ⟨rs[k].a, rs[k].c, ⟨markU K, rs[k].m.acks, rs[k].m.done⟩⟩ (by rw [ek]; rfl)
  rw [Nat.add_zero] at r0
  have hR : RowG 3 wdCl w2 b off rs.length (putG (mkFW k0 rs k) k ⟨rs[k].a, rs[k].c, ⟨markU K, rs[k].m.acks, rs[k].m.done⟩⟩) := r0.wr hW (by
    rcases hd with ⟨-, rfl, rfl⟩ | ⟨hn, rfl, rfl⟩
    · exact .inr (Nat.zero_le _)
    · have := (hA.2 k hk).resolve_left hn
      omega)
  refine ⟨hR, ?_, fun i hil => ?_, ?_, ?_⟩
  · have r2 := hR.put wdCl_len hk 2 (by decide) (.bool ((K + 1 + rs[k].m.acks.length) % 3 == 0)) ⟨rs[k].a, rs[k].c, mkWd K rs[k].m⟩ (by rw [putG_same]; unfold wdCl Sv mkWd; simp only [marksN_len]; rfl)
    rw [putG_twice] at r2
    refine r2.congr fun i hi => ?_
    by_cases e : i = k
    · subst e
      rw [putG_same, ek1]
    · rw [putG_ne _ _ e, ei i e]
  · by_cases e : i = k
    · subst e
      have eS := (mkFW_nodes k0 rs (i + 1) i).2
      rw [getD_lt _ hk] at eS
      rw [eS, ek1]
      refine OwN.putW hO ?_ _
      rcases hA.2 i hk with h | h
      · left
        exact (nil_of_len (marksN_len _ _)).2 h
      · right
        rw [← hv]; exact h
    · rw [ei i e]
      obtain ⟨eN, eS⟩ := mkFW_nodes k0 rs k i
      rw [getD_lt _ hil] at eN eS
      have q : OwN lo hi (Sv Wd.acks (mkFW k0 rs k i)) (mkFW k0 rs k i).m.acks w1 := ⟨(h2 i hil).1.below hB, (h2 i hil).2⟩
      have hnb : (mkFW k0 rs k i).m.acks = [] ∨ blockOf (Sv Wd.acks (mkFW k0 rs k i)) ≠ b := by
        rcases hA.2 i hil with h | h
        · exact .inl ((nil_of_len eN).2 h)
        · right
          rw [eS, ← hv]; exact h
      have q1 : OwN lo hi (Sv Wd.acks (mkFW k0 rs k i)) (mkFW k0 rs k i).m.acks w2 := (q.putW hnb _).wr hW (by
        rcases hd with ⟨-, rfl, rfl⟩ | ⟨hn, rfl, rfl⟩
        · exact .inr (.inr (Nat.zero_le _))
        · rcases hA.1 i k hil hk e with h | h | h
          · exact .inl ((nil_of_len eN).2 h)
          · exact absurd h hn
          · rw [eS]
            exact .inr (by omega))
      exact q1.putW hnb _
  · exact ((((h3.trans (Wr.of_below hB)).setW hb1 hb2 _).trans hW').setW hb1 hb2 _)
  · have := hW'.size
    rw [World.size_setCell] at this
    simp
    omega
set_option maxHeartbeats 4000000 in
theorem markWordS_ (lo hi : Nat) (v : Value) (m : List Wd) (k0 : Nat) (w : World) (hk : k0 ≤ 536870912) (hl : cntWordS m ≤ 536870912) (h : Sits (OwWordS lo hi v m) lo hi w) :
    Calls Tryz.prog 41 #[v, .int .i64 (k0 : Int)] w fun e w' => e = .returned (.int .i64 ((k0 + cntWordS m : Nat) : Int)) ∧ Sits (OwWordS lo hi v (mkWordS k0 m)) lo hi w' ∧ Wr lo hi w w' := by
  obtain ⟨rs, rfl, hO, hB, hN, hA⟩ := h.now
  have hfit := h.fit
  have hlen : rs.length ≤ 268435456 := by unfold cntWordS at hl; rw [List.length_map] at hl; omega
  obtain ⟨-, a, cap, rfl, hcap, -⟩ := hO.rw
  rcases Nat.eq_zero_or_pos rs.length with h0 | h0
  · have hm : rs = [] := List.length_eq_zero_iff.1 h0
    subst hm
    have e1 : mkWordS k0 (List.map Nst.m ([] : List (Nst Wd))) = [] := rfl
    have e2 : k0 + cntWordS (List.map Nst.m ([] : List (Nst Wd))) = k0 := rfl
    rw [e1, e2]
    have h' : Sits (OwWordS lo hi (.slice a ([] : List (Nst Wd)).length cap) []) lo hi w := h
    clear hl hO hB e1 e2 hN hA h
    go_enter Tryz.func41, Tryz.ntmps41
    go_wp2
    go_rounds 1
    go_ret
    exact ⟨rfl, h', Wr.refl _ _ _⟩
  · obtain ⟨b, off, rfl, hb1, Z0⟩ := hO.rowG h0 zeroWd
    have hb2 : b < hi := by
      rcases hB with h | h
      · rw [h] at h0; simp at h0
      · exact h
    have HS : Hid (∀ k (hk : k < rs.length), rs[k].m.acks.length ≤ 536870912 ∧ cntWordS ((rs.map Nst.m).take (k + 1)) = cntWordS ((rs.map Nst.m).take k) + rs[k].m.acks.length + 2 ∧ cntWordS ((rs.map Nst.m).take (k + 1)) ≤ 536870912) := fun k hk => by
      have h1 := cntWordS_take (rs.map Nst.m) k (by simpa using hk)
      have h2 := cntWordS_le' (rs.map Nst.m) (k + 1)
      rw [List.getElem_map] at h1
      exact ⟨by omega, h1, by omega⟩
    have M0 : MarkW lo hi k0 w w b off rs 0 := ⟨Z0.congr fun i hi => by unfold mkFW; rw [if_neg (by omega)], fun i hi => by
      have e : mkFW k0 rs 0 i = rs[i] := by unfold mkFW; rw [if_neg (by omega), getD_lt _ hi]
      rw [e]
      exact hN _ (List.getElem_mem hi), Wr.refl _ _ _, hfit⟩
    have FIN : Hid (∀ W : World, MarkW lo hi k0 w W b off rs rs.length → Sits (OwWordS lo hi (.slice (some ⟨b, off, none⟩) rs.length cap) (mkWordS k0 (rs.map Nst.m))) lo hi W) := fun W ⟨h1, h2, h3, h4⟩ => by
      have q := OwK.build (sub := Wd.acks) (lo := lo) (hi := hi) (cap := cap) h1 hb1 (.inr hb2) hcap h2 (fun i j hi hj hij => by
        obtain ⟨eN, eS⟩ := mkFW_nodes k0 rs rs.length i
        obtain ⟨eN', eS'⟩ := mkFW_nodes k0 rs rs.length j
        rw [getD_lt _ hi] at eN eS
        rw [getD_lt _ hj] at eN' eS'
        rw [eS, eS', nil_of_len eN, nil_of_len eN']
        exact hA.1 i j hi hj hij) (fun i hi => by
        obtain ⟨eN, eS⟩ := mkFW_nodes k0 rs rs.length i
        rw [getD_lt _ hi] at eN eS
        rw [eS, nil_of_len eN]
        exact hA.2 i hi)
      rw [range_map_m (ms := mkWordS k0 (rs.map Nst.m)) (by rw [mkWordS_len, List.length_map]) (fun i hi => by
        have hi' : i < rs.length := by rw [mkWordS_len, List.length_map] at hi; exact hi
        rw [mkWordS_at k0 (rs.map Nst.m) i (by simpa using hi'), List.getElem_map]
        unfold mkFW
        rw [if_pos hi', getD_lt _ hi'])] at q
      exact OwK.sits q h4
    have HA := dHide hA
    have hcn : Hid (cntWordS ((rs.map Nst.m).take rs.length) = cntWordS (rs.map Nst.m)) := by rw [Hid, List.take_of_length_le (by simp)]
    have HM0 := dHide M0
    clear h hO hB Z0 hN hA M0 hl
    go_enter Tryz.func41, Tryz.ntmps41
    go_wp2
    go_loopw [5, 1] (fun x y wr => ∃ (k K : Nat), x = .int .i64 (k : Int) ∧ y = .int .i64 (K : Int) ∧ k ≤ rs.length ∧ K ≤ 1073741824 ∧ Hid (K = k0 + cntWordS ((rs.map Nst.m).take k)) ∧ Hid (MarkW lo hi k0 w wr b off rs k)) (fun x _ _ => rs.length - (intOf x).toNat)
    case atStart => exact ⟨0, k0, rfl, rfl, Nat.zero_le _, by omega, rfl, dUnhide HM0⟩
    case round =>
      obtain ⟨k, K, rfl, rfl, hkk, hKb, hK, hM⟩ := hrel
      by_cases hlt : (k : Int) < (rs.length : Int)
      · have hkl : k < rs.length := by omega
        obtain ⟨s1, s2, s3⟩ := dUnhide HS k hkl
        have ek : mkFW k0 rs k k = rs[k] := by unfold mkFW; rw [if_neg (by omega), getD_lt _ hkl]
        have CX := dHide fun W => markText_all K (by omega) W
        have CT : Hid (∀ W, Below wr.heap.size wr W → Calls Tryz.prog 32 #[Sv Wd.acks rs[k], .int .i64 ((K + 1 : Nat) : Int)] (W.setCell ⟨b, off + k * 3, none⟩ (.string (markU K))) fun e w' => e = .returned (.int .i64 ((K + 1 + rs[k].m.acks.length : Nat) : Int)) ∧ OwN lo hi (Sv Wd.acks rs[k]) (marksN (K + 1) rs[k].m.acks.length) w' ∧ (∃ b1 b2, Wr b1 b2 (W.setCell ⟨b, off + k * 3, none⟩ (.string (markU K))) w' ∧ ((rs[k].m.acks = [] ∧ b1 = 0 ∧ b2 = 0) ∨ (rs[k].m.acks ≠ [] ∧ b1 = blockOf (Sv Wd.acks rs[k]) ∧ b2 = blockOf (Sv Wd.acks rs[k]) + 1))) ∧ Wr lo hi (W.setCell ⟨b, off + k * 3, none⟩ (.string (markU K))) w') := fun W hB => by
          have q := (dUnhide hM).2.1 k hkl
          rw [ek] at q
          have q' : OwN lo hi (Sv Wd.acks rs[k]) rs[k].m.acks W := ⟨q.1.below hB, q.2⟩
          have hsz := (dUnhide hM).2.2.2
          have hs1 := hB.size
          exact markN_in lo hi (Sv Wd.acks rs[k]) rs[k].m.acks (K + 1) _ (by omega) (by omega) (by rw [World.size_setCell]; omega) (q'.putW (by
            rcases (dUnhide HA).2 k hkl with h | h
            · exact .inl h
            · exact .inr h) _)
        have Z0 : Hid (∀ W, Below wr.heap.size wr W → (W.cell? ⟨b, off + k * 3, none⟩ = some (.string rs[k].m.data) ∧ W.frozen? ⟨b, off + k * 3, none⟩ = false) ∧ W.cell? ⟨b, off + k * 3 + 1, none⟩ = some (.slice rs[k].a rs[k].m.acks.length rs[k].c)) := fun W hB => by
          have q := (dUnhide hM).1.below hB
          obtain ⟨z0, f0⟩ := q k hkl 0 _ (by rw [ek]; rfl)
          obtain ⟨z1, f1⟩ := q k hkl 1 _ (by rw [ek]; rfl)
          exact ⟨⟨by simpa using z0, by simpa using f0⟩, z1⟩
        have ST : Hid (∀ w1 w2, Below wr.heap.size wr w1 → OwN lo hi (Sv Wd.acks rs[k]) (marksN (K + 1) rs[k].m.acks.length) w2 → ∀ b1 b2, Wr b1 b2 (w1.setCell ⟨b, off + k * 3, none⟩ (.string (markU K))) w2 → ((rs[k].m.acks = [] ∧ b1 = 0 ∧ b2 = 0) ∨ (rs[k].m.acks ≠ [] ∧ b1 = blockOf (Sv Wd.acks rs[k]) ∧ b2 = blockOf (Sv Wd.acks rs[k]) + 1)) → Wr lo hi (w1.setCell ⟨b, off + k * 3, none⟩ (.string (markU K))) w2 →
            (w2.cell? ⟨b, off + k * 3 + 2, none⟩ = some (.bool rs[k].m.done) ∧ w2.frozen? ⟨b, off + k * 3 + 2, none⟩ = false) ∧ MarkW lo hi k0 w (w2.setCell ⟨b, off + k * 3 + 2, none⟩ (.bool ((K + 1 + rs[k].m.acks.length) % 3 == 0))) b off rs (k + 1)) := fun w1 w2 hB hO b1 b2 hW hd hW' => by
          have hK' := dUnhide hK
          subst hK'
          obtain ⟨q1, q2⟩ := (dUnhide hM).step hkl hb1 hb2 (dUnhide HA) rfl hB hO b1 b2 hW hd hW'
          exact ⟨q1 k hkl 2 _ (by rw [putG_same]; rfl), q2⟩
        have hK2 : Hid (K + rs[k].m.acks.length + 2 = k0 + cntWordS ((rs.map Nst.m).take (k + 1))) := by rw [Hid, s2, dUnhide hK]; omega
        have hKb2 : K + rs[k].m.acks.length + 2 ≤ 1073741824 := by rw [dUnhide hK2]; omega
        unfold Sv at CT ST
        have em : (((K + 1 + rs[k].m.acks.length : Nat) : Int) % 3 == 0) = ((K + 1 + rs[k].m.acks.length) % 3 == 0) := mod3_eq _
        generalize hy : rs[k] = y at *
        obtain ⟨ya, yc, yd, yn, yb⟩ := y
        simp only at *
        clear hM s1 s2 s3 ek
        have eK1 : ((K + 1 : Nat) : Int) = (K : Int) + 1 := by omega
        rw [eK1] at CT
        generalize markU K = MU at *
        go_wp2_with fail
        refine (dUnhide CX _).mono ?_
        rintro r w1 ⟨rfl, b1⟩
        obtain ⟨⟨z0, f0⟩, z1⟩ := dUnhide Z0 w1 b1
        have CT1 := dHide (dUnhide CT w1 b1)
        clear CX CT Z0
        go_wp2_with fail
        refine (dUnhide CT1).mono ?_
        rintro r w2 ⟨rfl, o2, ⟨d1, d2, d3, hd1⟩, d4⟩
        obtain ⟨⟨z2, f2⟩, M2⟩ := dUnhide ST w1 w2 b1 o2 d1 d2 d3 hd1 d4
        have HM2 := dHide M2
        clear CT1 ST o2 d1 hd1 d3 d4 z0 f0 z1 M2 b1
        rw [← em] at HM2
        have e4 : ((K + yn.length + 2 : Nat) : Int) = ((K + 1 + yn.length : Nat) : Int) + 1 := by omega
        have G := dHide (show ∃ (k' K' : Nat), (Value.int .i64 ((k : Int) + 1)) = .int .i64 (k' : Int) ∧ (Value.int .i64 (((K + 1 + yn.length : Nat) : Int) + 1)) = .int .i64 (K' : Int) ∧ k' ≤ rs.length ∧ K' ≤ 1073741824 ∧ Hid (K' = k0 + cntWordS ((rs.map Nst.m).take k')) ∧ k' = k + 1 from ⟨k + 1, K + yn.length + 2, by rw [Int.natCast_add]; rfl, by rw [e4], by omega, hKb2, hK2, rfl⟩)
        have hq : (K + 1 + yn.length : Nat) ≤ 1073741824 := by omega
        generalize (K + 1 + yn.length : Nat) = q at *
        clear e4 em hK2 hKb2 eK1
        go_wp2
        go_roundw
        case rel =>
          obtain ⟨k', K', g1, g2, g3, g4, g5, rfl⟩ := dUnhide G
          exact ⟨k + 1, K', by go_num, by first | exact g2 | (rw [← g2]; go_num), g3, g4, g5, dUnhide HM2⟩
        case measure => simp [intOf]; omega
      · have e1 : k = rs.length := by omega
        subst e1
        have e2 : Hid ((K : Int) = ((k0 + cntWordS (rs.map Nst.m) : Nat) : Int)) := by rw [Hid, dUnhide hK, dUnhide hcn]
        have O := dHide (dUnhide FIN wr (dUnhide hM))
        have hw := dHide (dUnhide hM).2.2.1
        clear hM hK FIN HM0 hcn
        go_wp2
        go_ret
        exact ⟨by have e := dUnhide e2; simp only [Int.natCast_add] at e; simp [e], dUnhide O, dUnhide hw⟩
set_option maxHeartbeats 2000000 in
theorem markWriter_ (lo hi : Nat) (v : Value) (m : Wt) (k0 : Nat) (w : World) (hk : k0 ≤ 536870912) (hl : cntWriter m ≤ 536870912) (h : Sits (OwWriter lo hi v m) lo hi w) :
    Calls Tryz.prog 20 #[v, .int .i64 (k0 : Int)] w fun e w' => e = .returned (.int .i64 ((k0 + cntWriter m : Nat) : Int)) ∧ Sits (OwWriter lo hi v (mkWriter k0 m)) lo hi w' ∧ Wr lo hi w w' := by
  obtain ⟨sv, rfl, hn⟩ := h.now
  have hN : Sits (OwWordS lo hi sv m.words) lo hi w := h.imp fun W ⟨sv', h1, h2⟩ => by cases h1; exact h2
  have hb0 : ∀ o, Below w.heap.size w (w.alloc o) := fun o => (Below.refl _ _).alloc (Nat.le_refl _) o
  have C1 := dHide fun o => markWordS_ lo hi sv m.words k0 (w.alloc o) hk hl (hN.below (hb0 o))
  have e1 : ((k0 + cntWriter m : Nat) : Int) = ((k0 + cntWordS m.words : Nat) : Int) := rfl
  rw [e1]
  have HI := dHide fun (W : World) (h : Sits (OwWordS lo hi sv (mkWordS k0 m.words)) lo hi W) => h.imp fun W hW => (show OwWriter lo hi (.agg #[.int .i64 m.epoch, sv]) (mkWriter k0 m) W from ⟨sv, rfl, hW⟩)
  obtain ⟨a, cap, rfl, -⟩ := formK (OwK.rd hn)
  clear h hN hk hl e1 hn
  go_enter Tryz.func20, Tryz.ntmps20
  go_wp2_with fail
  refine (dUnhide C1 _).mono ?_
  rintro e w1 ⟨rfl, o1, d1⟩
  have q1 := dHide (dUnhide HI _ o1)
  have D1 := dHide ((Wr.of_below (hb0 _)).trans d1)
  clear o1 d1 C1 hb0 HI
  go_wp2
  go_ret
  exact ⟨rfl, dUnhide q1, dUnhide D1⟩
end Go.Proofs.YtioocibgfhgkhaaGreatDoor
namespace Go.Proofs.YtioocibgfhgkhaaGreatDoor
open Go.ChangeShapes Go.WideShapes Go.ChangeAt Go.RowKit
set_option linter.unusedVariables false
set_option linter.unusedSimpArgs false
set_option maxRecDepth 100000

set_option maxHeartbeats 4000000 in
theorem heldWordS_ (v : Value) (m : List Wd) (k0 : Nat) (w : World) (hk : k0 ≤ 536870912) (hl : cntWordS m ≤ 536870912) (h : RdWordS v (mkWordS k0 m) w) :
    Calls Tryz.prog 42 #[v, .int .i64 (k0 : Int)] w fun e w' => e = .returned (.int .i64 ((k0 + cntWordS m : Nat) : Int)) ∧ Below w.heap.size w w' := by
  obtain ⟨rs, hm, hr, hn⟩ := h
  have em : m.length = rs.length := by rw [← mkWordS_len k0 m, ← hm, List.length_map]
  have HV := dHide fun W (hb : Below w.heap.size w W) => hr.below hb
  have HN := dHide fun W (hb : Below w.heap.size w W) k (hk : k < rs.length) => (hn _ (List.getElem_mem hk)).below hb
  obtain ⟨h0, a, cap, rfl, -, -⟩ := hr
  have hlen : rs.length ≤ 268435456 := by unfold cntWordS at hl; omega
  have HM : Hid (∀ k (hk : k < rs.length), ∃ n : Nat, rs[k].m = mkWd (k0 + cntWordS (m.take k)) (m[k]'(by omega)) ∧ n = (m[k]'(by omega)).acks.length ∧ cntWordS (m.take (k + 1)) = cntWordS (m.take k) + n + 2 ∧ cntWordS (m.take (k + 1)) ≤ 536870912) := fun k hk => by
    refine ⟨_, ?_, rfl, cntWordS_take m k (by omega), Nat.le_trans (cntWordS_le' m (k + 1)) hl⟩
    have e1 : (rs.map Nst.m)[k]'(by simpa using hk) = (mkWordS k0 m)[k]'(by rw [mkWordS_len]; omega) := by simp only [hm]
    rw [List.getElem_map, mkWordS_at k0 m k (by omega)] at e1
    exact e1
  have hcn : Hid (cntWordS (m.take rs.length) = cntWordS m) := by rw [Hid, List.take_of_length_le (by omega)]
  clear hn hm hl
  go_enter Tryz.func42, Tryz.ntmps42
  go_wp2
  go_loopw [5, 1] (fun x y wr => ∃ (k K : Nat), x = .int .i64 (k : Int) ∧ y = .int .i64 (K : Int) ∧ k ≤ rs.length ∧ K ≤ 1073741824 ∧ Hid (K = k0 + cntWordS (m.take k)) ∧ Below w.heap.size w wr) (fun x _ _ => rs.length - (intOf x).toNat)
  case atStart => exact ⟨0, k0, rfl, rfl, Nat.zero_le _, by omega, rfl, Below.refl _ _⟩
  case round =>
    obtain ⟨k, K, rfl, rfl, hkk, hKb, hK, hb⟩ := hrel
    by_cases hlt : (k : Int) < (rs.length : Int)
    · have hkl : k < rs.length := by omega
      obtain ⟨b, off, rfl, hc⟩ := (dUnhide HV wr hb).word hkl
      have E1 := hc k hkl
      obtain ⟨n, q1, q2, q3, q4⟩ := dUnhide HM k hkl
      have N1 := dUnhide HN wr hb k hkl
      rw [q1, ← dUnhide hK] at N1
      unfold WdAt at E1
      rw [q1, ← dUnhide hK] at E1
      unfold Sv at N1
      unfold mkWd at E1 N1
      rw [← q2] at E1 N1
      simp only [marksN_len] at E1 N1
      rw [q1] at N1
      unfold mkWd at N1
      simp only [marksN_len, ← q2] at N1
      have HE : Hid (∀ W, Below wr.heap.size wr W → W.cell? ⟨b, off + k * 3, none⟩ = some (.string (markU K)) ∧ W.cell? ⟨b, off + k * 3 + 1, none⟩ = some (.slice rs[k].a n rs[k].c) ∧ W.cell? ⟨b, off + k * 3 + 2, none⟩ = some (.bool ((K + 1 + n) % 3 == 0))) := fun W hB => ⟨(hB.cell (p := ⟨b, off + k * 3, none⟩) (dCell_lt E1.1)).trans E1.1, (hB.cell (p := ⟨b, off + k * 3 + 1, none⟩) (dCell_lt E1.2.1)).trans E1.2.1, (hB.cell (p := ⟨b, off + k * 3 + 2, none⟩) (dCell_lt E1.2.2)).trans E1.2.2⟩
      have CX := dHide fun W => markText_all K (by omega) W
      have CT := dHide fun W (hB : Below wr.heap.size wr W) => heldIntS_yes _ (K + 1) n W (by omega) (by omega) (N1.below hB)
      have hK2 : Hid (K + n + 2 = k0 + cntWordS (m.take (k + 1))) := by rw [Hid, q3, dUnhide hK]; omega
      have hKb2 : K + n + 2 ≤ 1073741824 := by rw [dUnhide hK2]; omega
      have e4 : ((K + n + 2 : Nat) : Int) = ((K + 1 + n : Nat) : Int) + 1 := by omega
      have em3 := mod3_eq (K + 1 + n)
      rw [← em3] at HE
      have eK1 : ((K + 1 : Nat) : Int) = (K : Int) + 1 := by omega
      rw [eK1] at CT
      have G := dHide (show ∃ K' : Nat, (Value.int .i64 (((K + 1 + n : Nat) : Int) + 1)) = .int .i64 (K' : Int) ∧ K' ≤ 1073741824 ∧ Hid (K' = k0 + cntWordS (m.take (k + 1))) from ⟨K + n + 2, by rw [e4], hKb2, hK2⟩)
      have hq : (K + 1 + n : Nat) ≤ 1073741824 := by omega
      have hq0 : ¬ (((K + 1 + n : Nat) : Int) < 0) := by omega
      generalize (K + 1 + n : Nat) = q at *
      generalize rs[k].a = ya at *
      generalize rs[k].c = yc at *
      generalize markU K = MU at *
      have bd : Below wr.heap.size wr wr.drew := (Below.refl _ _).drew
      have p0 := dUnhide HE wr (Below.refl _ _)
      clear hc E1 q1 q2 q3 q4 N1 e4 em3 hK2 hKb2 HN HM eK1
      go_wp2_with fail
      go_region_held3 (fun W => W.cell? ⟨b, off + k * 3, none⟩ = some (.string MU) ∧ W.cell? ⟨b, off + k * 3 + 1, none⟩ = some (.slice ya n yc) ∧ W.cell? ⟨b, off + k * 3 + 2, none⟩ = some (.bool ((q : Int) % 3 == 0))) (first | exact p5 | exact p0 | exact dUnhide HE _ bd | go_keep)
        (first
          | (go_at_call 66; refine (dUnhide CX _).mono ?_; rintro r w5 ⟨rfl, b5⟩; have hb5 := belowThen bd b5; have p5 := dUnhide HE _ hb5))
      all_goals
        obtain ⟨-, z1, z2⟩ := p5
        have CT1 := dHide (dUnhide CT w5 hb5)
        clear CT CX
        go_wp2_with fail
        refine (dUnhide CT1).mono ?_
        rintro r w2 ⟨rfl, b2⟩
        have hbb := belowThen hb5 b2
        obtain ⟨-, y1, y2⟩ := dUnhide HE w2 hbb
        have hb2 := belowThen hb hbb
        clear CT1 b2 HE hb z1 z2 hb5 hbb p0
        go_wp2
        go_roundw
        case rel =>
          obtain ⟨K', g2, g4, g5⟩ := dUnhide G
          exact ⟨k + 1, K', by go_num, by first | exact g2 | (rw [← g2]; go_num), by omega, g4, g5, hb2⟩
        case measure => simp [intOf]; omega
    · have e1 : k = rs.length := by omega
      subst e1
      have e2 : Hid ((K : Int) = ((k0 + cntWordS m : Nat) : Int)) := by rw [Hid, dUnhide hK, dUnhide hcn]
      clear hK hcn HV HN HM
      go_wp2
      go_ret
      exact ⟨by have e := dUnhide e2; simp only [Int.natCast_add] at e; simp [e], hb⟩
set_option maxHeartbeats 2000000 in
theorem heldWriter_ (v : Value) (m : Wt) (k0 : Nat) (w : World) (hk : k0 ≤ 536870912) (hl : cntWriter m ≤ 536870912) (h : RdWriter v (mkWriter k0 m) w) :
    Calls Tryz.prog 21 #[v, .int .i64 (k0 : Int)] w fun e w' => e = .returned (.int .i64 ((k0 + cntWriter m : Nat) : Int)) ∧ Below w.heap.size w w' := by
  have hb0 : ∀ o, Below w.heap.size w (w.alloc o) := fun o => (Below.refl _ _).alloc (Nat.le_refl _) o
  obtain ⟨sv, rfl, h⟩ := h
  have C1 := dHide fun W (hb : Below w.heap.size w W) => heldWordS_ sv m.words k0 W hk hl (RdK.below h hb)
  obtain ⟨a, cap, rfl, -⟩ := formK h
  have e1 : ((k0 + cntWriter m : Nat) : Int) = ((k0 + cntWordS m.words : Nat) : Int) := rfl
  rw [e1]
  have h1 : ¬ ((k0 + cntWordS m.words : Nat) : Int) < 0 := by omega
  generalize ((k0 + cntWordS m.words : Nat) : Int) = q at *
  generalize (mkWriter k0 m).epoch = tr at *
  generalize (mkWriter k0 m).words.length = n at *
  clear h e1 hk hl
  go_enter Tryz.func21, Tryz.ntmps21
  go_wp2_with fail
  refine (dUnhide C1 _ (hb0 _)).mono ?_
  rintro r w1 ⟨rfl, b1⟩
  have B1 := belowThen (hb0 _) b1
  clear C1 b1 hb0
  go_wp2
  go_ret
  exact ⟨rfl, B1⟩
end Go.Proofs.YtioocibgfhgkhaaGreatDoor
