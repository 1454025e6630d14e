/- Several texts in one: PkA, PkG, PkC, PkD, PkE, PkF, PkB, PkM. -/
import Derived.Test.YthndkkjgjhgdnaaDoorGbF
import Derived.Test.YthndkkjgjhgdnaaDoorGk16
import Derived.Test.YthndkkjgjhgdnaaDoorGaA
import Derived.Test.YthndkkjgjhgdnaaDoorGk6
import Derived.Test.YthndkkjgjhgdnaaDoorEntD
import Derived.BigQuiet
import Derived.Deep.QuietTactic
import Derived.Test.YthndkkjgjhgdnaaDoorEntE
import Derived.Test.YthndkkjgjhgdnaaDoorGaC
import Derived.Test.YthndkkjgjhgdnaaDoorGaT
import Derived.Deep.RegionHeld3
import Derived.Deep.DeepCutAuto
namespace Go.Proofs.YthndkkjgjhgdnaaDoor
open Go.ChangeShapes Go.WideShapes Go.ChangeAt Go.RowKit
set_option linter.unusedVariables false
set_option linter.unusedSimpArgs false

/-- The numbers of a list, one behind the other. -/
def numsB (xs : List Int) : List UInt8 := xs.flatMap fun x => numB x.toNat
/-- The bytes of a list of numbers. -/
def lstB (xs : List Int) : List UInt8 := numB xs.length ++ numsB xs
theorem numsB_take (xs : List Int) (k : Nat) (h : k < xs.length) : numsB (xs.take (k + 1)) = numsB (xs.take k) ++ numB xs[k].toNat := by
  unfold numsB
  rw [List.take_succ_eq_append_getElem h, List.flatMap_append, List.flatMap_cons, List.flatMap_nil, List.append_nil]
theorem numsB_len (xs : List Int) : (numsB xs).length ≤ 9 * xs.length := by
  induction xs with
  | nil => simp [numsB]
  | cons x l ih =>
    have h := numB_len x.toNat
    unfold numsB at ih ⊢
    rw [List.flatMap_cons, List.length_append, List.length_cons]
    omega
theorem lstB_pos (xs : List Int) : 0 < (lstB xs).length := by
  have := numB_pos xs.length
  unfold lstB
  rw [List.length_append]
  omega
theorem lstB_len (xs : List Int) : (lstB xs).length ≤ 9 * xs.length + 9 := by
  have h := numB_len xs.length
  have h2 := numsB_len xs
  unfold lstB
  rw [List.length_append]
  omega
/-- The cells of a list of numbers. -/
theorem Ns.at17 {w : World} {a : Option Addr} {n cap : Nat} {xs : List Int} (h : Ns w (.slice a n cap) xs) {k : Nat} (hk : k < xs.length) : ∃ b off, a = some ⟨b, off, none⟩ ∧ ∀ i (hi : i < xs.length), w.cell? ⟨b, off + i, none⟩ = some (.int .i64 xs[i]) := by
  obtain ⟨-, a', cap', e, -, h⟩ := h
  cases e
  rcases h with h | h
  · rw [h] at hk; simp at hk
  · exact h
/-- Numbers that are not below 0. -/
def natI (xs : List Int) : Prop := ∀ x ∈ xs, 0 ≤ x ∧ x ≤ 9223372036854775807
set_option maxHeartbeats 4000000 in
theorem specList17_any (v : Value) (xs : List Int) (w : World) (hv : Ns w v xs) (h0 : natI xs) (hl : xs.length ≤ 1048576) :
    Calls Tryd.prog 25 #[v] w fun e w' => (∃ u, e = .returned u ∧ w'.ownsRow w.heap.size 5 1 u (lstB xs).length (bcells (lstB xs))) ∧ Below w.heap.size w w' := by
  have HV := dHide fun W (hb : Below w.heap.size w W) => hv.below hb
  obtain ⟨-, a, cap, rfl, -, -⟩ := hv
  have CP := dHide (put_at xs.length (by omega) w w (Below.refl _ _))
  go_enter Tryd.func25, Tryd.ntmps25
  go_wp2_with fail
  refine (dUnhide CP).mono ?_
  rintro e w1 ⟨g1, c1, rfl, o1, r1, b1⟩
  have l1 := numB_len xs.length
  have ES : Hid (lstB xs = numB xs.length ++ numsB xs) := rfl
  have LP := dHide (numB_pos xs.length)
  have HO := dHide o1
  generalize numB xs.length = pre at *
  clear CP r1 o1
  go_wp2
  go_loopw [3, 4] (fun o x wr => ∃ k : Nat, x = .int .i64 (k : Int) ∧ k ≤ xs.length ∧ wr.ownsRow w.heap.size 5 1 o (pre ++ numsB (xs.take k)).length (bcells (pre ++ numsB (xs.take k))) ∧ Below w.heap.size w wr) (fun _ x _ => xs.length - (intOf x).toNat)
  case atStart => exact ⟨0, rfl, Nat.zero_le _, by simpa [numsB] using dUnhide HO, b1⟩
  case round =>
    clear HO b1
    obtain ⟨k, rfl, hk, ho, hb⟩ := hrel
    by_cases hlt : (k : Int) < (xs.length : Int)
    · have hkl : k < xs.length := by omega
      obtain ⟨b, off, rfl, hc⟩ := (dUnhide HV wr hb).at17 hkl
      have c0 := hc k hkl
      have hS := dHide (numsB_take xs k hkl)
      have hx0 := h0 _ (List.getElem_mem hkl)
      have hfl := numsB_len (xs.take k)
      rw [List.length_take] at hfl
      generalize xs[k] = y at *
      generalize numsB (xs.take k) = FK at *
      obtain ⟨n, rfl⟩ := Int.eq_ofNat_of_zero_le hx0.1
      rw [Int.toNat_natCast] at hS
      have hpp := numB_pos n
      have hp9 := numB_len n
      have CP := dHide (put_at n (by omega) w wr hb)
      have HOB := dHide ho
      clear hc ho
      go_wp2_with fail
      refine (dUnhide CP).mono ?_
      rintro e w2 ⟨g2, c2, rfl, o2, r2, b2⟩
      have ho2 := own_kept (dUnhide HOB) r2
      clear CP HOB r2 c0 hb
      go_wp2_with (at_builtin; refine app8 _ rfl _ _ rfl w.heap.size _ (pre ++ FK) rfl ho2 ⟨g2, 0, none⟩ _ _ (numB n) rfl rfl (o2.cells rfl) ?c3 b2.size ?_)
      case c3 => simp only [List.length_append]; omega
      intro v3 w3 o3 r3
      have hb3 := b2.grown r3 b2.size (fun j hj => (ho2.lt j hj).1)
      have hrel : Hid (w3.ownsRow w.heap.size 5 1 v3 (pre ++ numsB (xs.take (k + 1))).length (bcells (pre ++ numsB (xs.take (k + 1))))) := by
        rw [Hid, dUnhide hS]
        first | exact own_len8 o3 | exact own_len8 (by rw [← List.append_assoc]; exact o3)
      clear o3 r3 ho2 o2 b2
      go_wp2
      go_roundw
      case rel => exact ⟨k + 1, by go_num, by omega, dUnhide hrel, hb3⟩
      case measure => simp [intOf]; omega
    · have e1 : xs.take k = xs := List.take_of_length_le (by omega)
      rw [e1] at ho
      have Q := dHide ho
      clear e1 ho
      go_wp2
      go_ret
      refine ⟨⟨_, rfl, ?_⟩, hb⟩
      rw [dUnhide ES]
      exact dUnhide Q
end Go.Proofs.YthndkkjgjhgdnaaDoor
namespace Go.Proofs.YthndkkjgjhgdnaaDoor
open Go.ChangeShapes Go.WideShapes Go.ChangeAt Go.RowKit
set_option linter.unusedVariables false
set_option linter.unusedSimpArgs false
set_option maxRecDepth 100000

/-- An event that may be packed. -/
def evPk (e : Ev) : Prop := (1 ≤ e.kind ∧ e.kind ≤ 5) ∧ 0 ≤ e.pl ∧ e.data.size ≤ 40
set_option maxHeartbeats 2000000 in
theorem specEvent17_any (e : Ev) (w : World) :
    Calls Tryd.prog 59 #[e.val] w fun r w' => RetB (evPk e) r ∧ Below w.heap.size w w' := by
  have ba : ∀ (w : World) o, Below w.heap.size w (w.alloc o) := fun w o => (Below.refl _ _).alloc (Nat.le_refl _) o
  have PD : Hid (evPk e ↔ (1 ≤ e.kind ∧ e.kind ≤ 5) ∧ 0 ≤ e.pl ∧ e.data.size ≤ 40) := Iff.rfl
  generalize evPk e = P at *
  obtain ⟨k, p, d⟩ := e
  unfold Ev.val
  simp only at *
  have C1 := dHide fun W => l1In_any k 1 5 W
  go_enter Tryd.func59, Tryd.ntmps59
  go_wp2_with fail
  refine (dUnhide C1 _).mono ?_
  rintro r w1 ⟨⟨b1, rfl, h1⟩, rfl⟩
  clear C1
  cases b1
  · have R : RetB P (.returned (.bool false)) := RetB.no fun h => by have := h1.2 ((dUnhide PD).1 h).1; cases this
    clear h1
    go_wp2
    go_ret
    exact ⟨R, ba _ _⟩
  have H1 := dHide (h1.1 rfl)
  clear h1
  by_cases hp : 0 ≤ p
  · by_cases hn : (d.size : Int) ≤ 40
    · have R : RetB P (.returned (.bool true)) := RetB.yes ((dUnhide PD).2 ⟨dUnhide H1, hp, by omega⟩)
      clear PD H1
      go_wp2
      go_ret
      exact ⟨by simpa [hn] using R, ba _ _⟩
    · have R : RetB P (.returned (.bool false)) := RetB.no fun h => by have := ((dUnhide PD).1 h).2.2; omega
      clear PD H1
      go_wp2
      go_ret
      refine ⟨?_, ba _ _⟩
      show RetB P (.returned (.bool (decide ((d.size : Int) ≤ 40))))
      rw [decide_eq_false (by omega)]
      exact R
  · have R : RetB P (.returned (.bool false)) := RetB.no fun h => by have := ((dUnhide PD).1 h).2.1; omega
    clear PD H1
    go_wp2
    go_ret
    exact ⟨by simpa [hp] using R, ba _ _⟩
/-- A reader that may be packed. -/
def rdPk (r : Rr) : Prop := (∀ e ∈ r.out, evPk e) ∧ rrP r
set_option maxHeartbeats 4000000 in
theorem specReader17_any (v : Value) (m : Rr) (w : World) (hv : RdReader v m w) :
    Calls Tryd.prog 36 #[v] w fun r w' => RetB (rdPk m) r ∧ Below w.heap.size w w' := by
  have ba : ∀ (w : World) o, Below w.heap.size w (w.alloc o) := fun w o => (Below.refl _ _).alloc (Nat.le_refl _) o
  have CR := dHide fun W (hb : Below w.heap.size w W) => specReaderOk_any v m W (hv.below hb)
  obtain ⟨sv, rfl, hs⟩ := hv
  have HV := dHide fun W (hb : Below w.heap.size w W) => RdEventS.below hs hb
  obtain ⟨a, cap, rfl, hle⟩ := formEventS hs
  have PY : Hid ((∀ e ∈ m.out, evPk e) → (rrP m ↔ rdPk m)) := fun h => ⟨fun h2 => ⟨h, h2⟩, fun h2 => h2.2⟩
  have PN : Hid (∀ i (h : i < m.out.length), ¬ evPk m.out[i] → ¬ rdPk m) := fun i h h2 h3 => h2 (h3.1 _ (List.getElem_mem h))
  generalize rdPk m = P at *
  generalize rrP m = Q at *
  generalize m.epoch = y0 at *
  generalize m.off = y1 at *
  generalize m.out = es at *
  have X0 := dHide (Bx.new w [.int .i64 y0, .int .i64 y1, .slice a es.length cap] 36)
  have B0 := ba w (.cells #[.int .i64 y0, .int .i64 y1, .slice a es.length cap] 36)
  clear hs
  go_enter Tryd.func36, Tryd.ntmps36
  go_wp2_with fail
  go_loopw [3] (fun x wr => ∃ k : Nat, x = .int .i64 (k : Int) ∧ k ≤ es.length ∧ Hid (∀ i (h : i < es.length), i < k → evPk es[i]) ∧ Hid (Bx wr w.heap.size [.int .i64 y0, .int .i64 y1, .slice a es.length cap]) ∧ Below w.heap.size w wr) (fun x _ => es.length - (intOf x).toNat)
  case atStart => exact ⟨0, rfl, Nat.zero_le _, fun i h h' => by omega, X0, B0⟩
  case round =>
    clear X0 B0
    obtain ⟨k, rfl, hk, hall, hX, hb⟩ := hrel
    obtain ⟨x0, x1, x2⟩ : _ ∧ _ ∧ _ := ⟨(dUnhide hX) 0 _ rfl, (dUnhide hX) 1 _ rfl, (dUnhide hX) 2 _ rfl⟩
    by_cases hlt : (k : Int) < (es.length : Int)
    · have hkl : k < es.length := by omega
      obtain ⟨b, off, rfl, hc⟩ := (dUnhide HV wr hb).atEv hkl
      obtain ⟨c0, c1, c2⟩ := hc k hkl
      have CE := specEvent17_any es[k] wr
      have PK := dHide (dUnhide PN k hkl)
      have HA : Hid (evPk es[k] → ∀ i (h : i < es.length), i < k + 1 → evPk es[i]) := fun hp i h hi => by
        by_cases e : i = k
        · subst e; exact hp
        · exact dUnhide hall i h (by omega)
      generalize es[k] = y at *
      obtain ⟨y3, y4, y5⟩ := y
      unfold Ev.val at CE
      simp only at *
      clear hc PN hall
      go_wp2_with fail
      refine CE.mono ?_
      rintro r w1 ⟨hr, b1⟩
      have B1 := belowThen hb b1
      have X1 := dHide ((dUnhide hX).below b1)
      clear CE hX hb b1 x0 x1 x2 c0 c1 c2
      by_cases hp : evPk ⟨y3, y4, y5⟩
      · obtain rfl := hr.of_yes hp
        have A := dHide (dUnhide HA hp)
        clear hr HA PK
        go_wp2
        go_roundw
        case rel => exact ⟨k + 1, by go_num, by omega, A, X1, B1⟩
        case measure => simp [intOf]; omega
      · obtain rfl := hr.of_no hp
        have R : RetB P (.returned (.bool false)) := RetB.no (dUnhide PK hp)
        clear hr HA PK
        go_wp2
        go_ret
        exact ⟨R, B1⟩
    · have HQ : Q ↔ P := dUnhide PY fun e he => by
        obtain ⟨i, hi, rfl⟩ := List.getElem_of_mem he
        exact dUnhide hall i hi (by omega)
      have C1 := dUnhide CR wr hb
      clear HV PN PY hall CR
      go_wp2_with fail
      refine C1.mono ?_
      rintro r w1 ⟨hr, b1⟩
      have B1 := belowThen hb b1
      clear C1 hX hb b1 x0 x1 x2
      by_cases hp : Q
      · obtain rfl := hr.of_yes hp
        have R : RetB P (.returned (.bool true)) := RetB.yes (HQ.1 hp)
        clear hr
        go_wp2
        go_ret
        exact ⟨R, B1⟩
      · obtain rfl := hr.of_no hp
        have R : RetB P (.returned (.bool false)) := RetB.no fun h => hp (HQ.2 h)
        clear hr
        go_wp2
        go_ret
        exact ⟨R, B1⟩
end Go.Proofs.YthndkkjgjhgdnaaDoor
namespace Go.Proofs.YthndkkjgjhgdnaaDoor
open Go.ChangeShapes Go.WideShapes Go.ChangeAt Go.RowKit
set_option linter.unusedVariables false
set_option linter.unusedSimpArgs false
set_option maxRecDepth 100000

/-- A number that is read by the cursor, and where it is then. -/
def rdN (bs : List UInt8) (q : Nat) (ok : Bool) : Int × Nat × Bool := if ok then (match getZ bs (q : Int) with | some (x, k) => ((x : Int), q + k, true) | none => (0, q, false)) else (0, q, false)
theorem rdN_off (bs : List UInt8) (q : Nat) : rdN bs q false = (0, q, false) := rfl
theorem rdN_none {bs : List UInt8} {q : Nat} (ok : Bool) (h : getZ bs (q : Int) = none) : rdN bs q ok = (0, q, false) := by
  cases ok
  · rfl
  · simp [rdN, h]
theorem rdN_some {bs : List UInt8} {q x k : Nat} (h : getZ bs (q : Int) = some (x, k)) : rdN bs q true = ((x : Int), q + k, true) := by simp [rdN, h]
/-- The cursor, in its block cb. -/
def Cu (W : World) (B cb : Nat) (v : Value) (q : Nat) (ok : Bool) : Prop := BxZ W B cb [v, .int .i64 (q : Int), .bool ok]
set_option maxHeartbeats 4000000 in
theorem specNum17_any (B cb : Nat) (v : Value) (bs : List UInt8) (q : Nat) (ok : Bool) (w : World) (hc : Cu w B cb v q ok) (hv : Bs w v bs) (hl : bs.length ≤ 1048576) :
    Calls Tryd.prog 31 #[.pointer (some ⟨cb, 0, none⟩)] w fun e w' => e = .returned (.int .i64 (rdN bs q ok).1) ∧ Cu w' B cb v (rdN bs q ok).2.1 (rdN bs q ok).2.2 ∧ Drawn cb w w' := by
  have CG := dHide fun W (hb : Below w.heap.size w W) => specGetNum_same v bs (q : Int) W (hv.below hb) (by omega)
  obtain ⟨-, a, cap, rfl, -⟩ := hv
  have HC := dHide fun W (hb : Below w.heap.size w W) => BxZ.below hc hb
  cases hz : getZ bs (q : Int) with
  | none =>
    have HR : Hid (rdN bs q ok = (0, q, false)) := rdN_none ok hz
    have CN := dHide fun W (hb : Below w.heap.size w W) => (dUnhide CG W hb).mono fun e w' h => (⟨by rw [h.1, hz]; rfl, h.2⟩ : e = .returned (.tuple #[.int .i64 0, .int .i64 0, .bool false]) ∧ w' = W)
    rw [dUnhide HR]
    clear hz
    obtain ⟨b0, -⟩ := hc.2 0 _ rfl
    obtain ⟨b1, -⟩ := hc.2 1 _ rfl
    clear HR CG
    go_enter Tryd.func31, Tryd.ntmps31
    go_wp2_with fail
    go_quiet ((go_at_call 51; exact Calls.quiet_of_same (dUnhide CN _ (below_drewN (Below.refl _ _) _))))
    have Xd := dUnhide HC (w.drewN nq) (below_drewN (Below.refl _ _) nq)
    have Dd := (Drawn.refl cb w).drewN nq
    obtain ⟨d0, -⟩ := Xd.2 0 _ rfl
    obtain ⟨d1, g1⟩ := Xd.2 1 _ rfl
    obtain ⟨d2, g2⟩ := Xd.2 2 _ rfl
    generalize w.drewN nq = wd at *
    have F := dHide (And.intro (Xd.put 2 (.bool false)) (Dd.setCell 2 (.bool false)))
    clear Xd Dd CN HC hc
    go_wp2
    go_ret
    exact ⟨rfl, (dUnhide F).1, (dUnhide F).2⟩
  | some r =>
    obtain ⟨x, k⟩ := r
    have CN := dHide fun W (hb : Below w.heap.size w W) => (dUnhide CG W hb).mono fun e w' h => (⟨by rw [h.1, hz]; simp [getT], h.2⟩ : e = .returned (.tuple #[.int .i64 (x : Int), .int .i64 ((q + k : Nat) : Int), .bool true]) ∧ w' = W)
    cases ok
    case false =>
      have HR : Hid (rdN bs q false = (0, q, false)) := rdN_off bs q
      rw [dUnhide HR]
      clear hz
      obtain ⟨b0, -⟩ := hc.2 0 _ rfl
      obtain ⟨b1, -⟩ := hc.2 1 _ rfl
      clear HR CG
      go_enter Tryd.func31, Tryd.ntmps31
      go_wp2_with fail
      go_quiet ((go_at_call 51; exact Calls.quiet_of_same (dUnhide CN _ (below_drewN (Below.refl _ _) _))))
      have Xd := dUnhide HC (w.drewN nq) (below_drewN (Below.refl _ _) nq)
      have Dd := (Drawn.refl cb w).drewN nq
      obtain ⟨d0, -⟩ := Xd.2 0 _ rfl
      obtain ⟨d1, g1⟩ := Xd.2 1 _ rfl
      obtain ⟨d2, g2⟩ := Xd.2 2 _ rfl
      generalize w.drewN nq = wd at *
      have F := dHide (And.intro (Xd.put 2 (.bool false)) (Dd.setCell 2 (.bool false)))
      clear Xd Dd CN HC hc
      go_wp2
      go_ret
      exact ⟨rfl, (dUnhide F).1, (dUnhide F).2⟩
    case true =>
      have HR : Hid (rdN bs q true = ((x : Int), q + k, true)) := rdN_some hz
      rw [dUnhide HR]
      clear hz
      obtain ⟨b0, -⟩ := hc.2 0 _ rfl
      obtain ⟨b1, -⟩ := hc.2 1 _ rfl
      clear HR CG
      go_enter Tryd.func31, Tryd.ntmps31
      go_wp2_with fail
      go_quiet ((go_at_call 51; exact Calls.quiet_of_same (dUnhide CN _ (below_drewN (Below.refl _ _) _))))
      have Xd := dUnhide HC (w.drewN nq) (below_drewN (Below.refl _ _) nq)
      have Dd := (Drawn.refl cb w).drewN nq
      obtain ⟨d0, -⟩ := Xd.2 0 _ rfl
      obtain ⟨d1, g1⟩ := Xd.2 1 _ rfl
      obtain ⟨d2, g2⟩ := Xd.2 2 _ rfl
      generalize w.drewN nq = wd at *
      have F := dHide (And.intro (Xd.put 1 (.int .i64 ((q + k : Nat) : Int))) (Dd.setCell 1 (.int .i64 ((q + k : Nat) : Int))))
      clear Xd Dd CN HC hc
      go_wp2
      go_ret
      exact ⟨rfl, (dUnhide F).1, (dUnhide F).2⟩
end Go.Proofs.YthndkkjgjhgdnaaDoor
namespace Go.Proofs.YthndkkjgjhgdnaaDoor
open Go.ChangeShapes Go.WideShapes Go.ChangeAt Go.RowKit
set_option linter.unusedVariables false
set_option linter.unusedSimpArgs false
set_option maxRecDepth 100000

theorem getZ_step {bs : List UInt8} {q x k : Nat} (h : getZ bs (q : Int) = some (x, k)) : x ≤ 9223372036854775807 ∧ 1 ≤ k ∧ q + k ≤ bs.length := by
  have hb := getZ_bd h
  rw [getZ_of] at h
  obtain ⟨r, h1, h2⟩ := getB_inv h
  have h3 := numB_pos x
  have h4 := congrArg List.length h1
  rw [List.length_drop, List.length_append] at h4
  omega
theorem rdN_step {bs : List UInt8} {q : Nat} (hq : q ≤ bs.length) : (0 ≤ (rdN bs q true).1 ∧ (rdN bs q true).1 ≤ 9223372036854775807) ∧ q ≤ (rdN bs q true).2.1 ∧ (rdN bs q true).2.1 ≤ bs.length ∧ ((rdN bs q true).2.2 = true → q + 1 ≤ (rdN bs q true).2.1) := by
  cases hz : getZ bs (q : Int) with
  | none =>
    rw [rdN_none true hz]
    exact ⟨⟨by simp, by simp⟩, by simp, by simpa using hq, fun h => by cases h⟩
  | some r =>
    obtain ⟨x, k⟩ := r
    rw [rdN_some hz]
    have := getZ_step hz
    simp only
    omega
/-- So many numbers are read, as long as all is right. -/
def rdK (bs : List UInt8) : Nat → Nat → Bool → List Int × Nat × Bool
  | 0, q, ok => ([], q, ok)
  | n + 1, q, false => ([], q, false)
  | n + 1, q, true => ((rdN bs q true).1 :: (rdK bs n (rdN bs q true).2.1 (rdN bs q true).2.2).1, (rdK bs n (rdN bs q true).2.1 (rdN bs q true).2.2).2)
theorem rdK_off (bs : List UInt8) (n q : Nat) : rdK bs n q false = ([], q, false) := by cases n <;> rfl
theorem rdK_zero (bs : List UInt8) (q : Nat) (ok : Bool) : rdK bs 0 q ok = ([], q, ok) := rfl
theorem rdK_succ (bs : List UInt8) (n q : Nat) : rdK bs (n + 1) q true = ((rdN bs q true).1 :: (rdK bs n (rdN bs q true).2.1 (rdN bs q true).2.2).1, (rdK bs n (rdN bs q true).2.1 (rdN bs q true).2.2).2) := rfl
/-- A list of numbers is read. -/
def rdL (bs : List UInt8) (q : Nat) (ok : Bool) : List Int × Nat × Bool := rdK bs (rdN bs q ok).1.toNat (rdN bs q ok).2.1 (rdN bs q ok).2.2
theorem own_drawn17 {bk B n : Nat} {w w' : World} {v : Value} {l : List Value} (h : w.ownsRow B 3 1 v n l) (hd : Drawn bk w w') (hb : bk < B) : w'.ownsRow B 3 1 v n l := h.kept hd.row (by
  by_cases e : v.ownBlock = none
  · exact .inl e
  · exact .inr fun e2 => by have := (h.lt bk e2).1; omega)
set_option maxHeartbeats 8000000 in
theorem specNums17_any (B cb : Nat) (v : Value) (bs : List UInt8) (q : Nat) (ok : Bool) (w : World) (hc : Cu w B cb v q ok) (hv : Bs w v bs) (hl : bs.length ≤ 1048576) (hq : q ≤ bs.length) (hne : bs = [] ∨ blockOf v ≠ cb) :
    Calls Tryd.prog 30 #[.pointer (some ⟨cb, 0, none⟩)] w fun e w' => (∃ u, e = .returned u ∧ OwnN w' w.heap.size u (rdL bs q ok).1) ∧ Cu w' B cb v (rdL bs q ok).2.1 (rdL bs q ok).2.2 ∧ Drawn cb w w' := by
  have hcb := hc.lt
  have HV := dHide fun W (hd : Drawn cb w W) => hv.drawn hd hne
  have CN := dHide fun q ok W (hd : Drawn cb w W) (hc : Cu W B cb v q ok) => specNum17_any B cb v bs q ok W hc (dUnhide HV W hd) hl
  have C1 := dHide (dUnhide CN q ok w (Drawn.refl _ _) hc)
  have EL : Hid (rdL bs q ok = rdK bs (rdN bs q ok).1.toNat (rdN bs q ok).2.1 (rdN bs q ok).2.2) := rfl
  have HS : Hid ((0 ≤ (rdN bs q ok).1 ∧ (rdN bs q ok).1 ≤ 9223372036854775807) ∧ (rdN bs q ok).2.1 ≤ bs.length) := by
    cases ok
    · rw [rdN_off]; exact ⟨⟨by simp, by simp⟩, hq⟩
    · have := rdN_step hq; exact ⟨this.1, this.2.2.1⟩
  generalize rdN bs q ok = R at *
  generalize rdL bs q ok = L at *
  obtain ⟨nI, q1, ok1⟩ := R
  obtain ⟨⟨hn0, hn1⟩, hq1⟩ := dUnhide HS
  simp only at hn0 hn1 hq1 C1 EL
  obtain ⟨n, rfl⟩ := Int.eq_ofNat_of_zero_le hn0
  rw [Int.toNat_natCast] at EL
  clear hv hc HS hn0 hq
  go_enter Tryd.func30, Tryd.ntmps30
  go_wp2_with fail
  refine (dUnhide C1).mono ?_
  rintro e w1 ⟨rfl, hc1, hd1⟩
  have hs1 := hd1.size
  have hoz : (w1.alloc (.cells #[] 3)).ownsRow w1.heap.size 3 1 (.slice (some ⟨w1.heap.size, 0, none⟩) 0 0) 0 (ncells []) := by
    have := World.ownsRow_made (e := 3) (size := 1) (base := w1.heap.size) w1 #[] 0 (Nat.le_refl _) (by decide) (by simp)
    simpa [ncells] using this
  have ba : Below w1.heap.size w1 (w1.alloc (.cells #[] 3)) := (Below.refl _ _).alloc (Nat.le_refl _) _
  have HC2 := dHide (BxZ.below hc1 ba)
  have HD2 := dHide (hd1.trans (Drawn.of_below ba))
  have hb1 : cb < w1.heap.size := by omega
  have hn12 : w1.heap.size ≤ (w1.alloc (.cells #[] 3)).heap.size := by simp
  clear hc1 hd1 ba C1
  go_wp2
  generalize w1.alloc (.cells #[] 3) = w2 at *
  generalize w1.heap.size = n1 at *
  go_loopw [4, 5] (fun ov xv wr => ∃ (k : Nat) (xs : List Int) (p : Nat) (okb : Bool), xv = .int .i64 (k : Int) ∧ xs.length = k ∧ k ≤ n ∧ k ≤ bs.length + 1 ∧ (okb = true → k ≤ p) ∧ p ≤ bs.length ∧ Hid (rdK bs n q1 ok1 = (xs ++ (rdK bs (n - k) p okb).1, (rdK bs (n - k) p okb).2)) ∧ wr.ownsRow n1 3 1 ov xs.length (ncells xs) ∧ Hid (Cu wr B cb v p okb) ∧ Hid (Drawn cb w wr) ∧ n1 ≤ wr.heap.size) (fun _ xv _ => bs.length + 2 - (intOf xv).toNat)
  case atStart => exact ⟨0, [], q1, ok1, rfl, rfl, Nat.zero_le _, Nat.zero_le _, fun _ => Nat.zero_le _, hq1, by simp [Hid], hoz, HC2, HD2, hn12⟩
  case round =>
    clear HC2 HD2 hoz
    obtain ⟨k, xs, p, okb, rfl, hxl, hkn, hkb, hkp, hp, HK, hown, HC, HD, hsz⟩ := hrel
    have p2 := ((dUnhide HC).2 2 _ rfl).1
    have hcz : cb < wr.heap.size := by omega
    have GO : Hid (rdK bs (n - k) p okb = ([], p, okb) → (∃ u, Ending.returned u4 = .returned u ∧ OwnN wr w.heap.size u L.1) ∧ Cu wr B cb v L.2.1 L.2.2 ∧ Drawn cb w wr) := by
      intro e
      have e2 : L = (xs, p, okb) := by
        have := (dUnhide EL).trans (dUnhide HK)
        rw [e] at this
        simpa using this
      rw [e2]
      exact ⟨⟨_, rfl, (ownN_of_row hown).mono hs1⟩, dUnhide HC, dUnhide HD⟩
    by_cases hlt : (k : Int) < (n : Int)
    · cases okb
      · have G := dHide (dUnhide GO (rdK_off bs _ p))
        clear GO HK HC HD CN HV
        go_wp2
        go_ret
        exact dUnhide G
      · have hkp2 : k ≤ p := hkp rfl
        have C2 := dHide (dUnhide CN p true wr (dUnhide HD) (dUnhide HC))
        have HS : Hid ((0 ≤ (rdN bs p true).1 ∧ (rdN bs p true).1 ≤ 9223372036854775807) ∧ p ≤ (rdN bs p true).2.1 ∧ (rdN bs p true).2.1 ≤ bs.length ∧ ((rdN bs p true).2.2 = true → p + 1 ≤ (rdN bs p true).2.1)) := rdN_step hp
        obtain ⟨j, hj⟩ : ∃ j, n - k = j + 1 := ⟨n - k - 1, by omega⟩
        have hj2 : n - (k + 1) = j := by omega
        have HK2 : Hid (rdK bs n q1 ok1 = (xs ++ [(rdN bs p true).1] ++ (rdK bs j (rdN bs p true).2.1 (rdN bs p true).2.2).1, (rdK bs j (rdN bs p true).2.1 (rdN bs p true).2.2).2)) := by
          have := dUnhide HK
          rw [hj, rdK_succ] at this
          rw [Hid, this]
          simp
        generalize rdN bs p true = R at *
        obtain ⟨y, p', ok'⟩ := R
        obtain ⟨hy, hpp, hpl, hpk⟩ := dUnhide HS
        simp only at hy hpp hpl hpk HK2 C2
        have HO := dHide hown
        clear GO HK HS CN HV HC hown
        go_wp2_with fail
        refine (dUnhide C2).mono ?_
        rintro e w3 ⟨rfl, hc3, hd3⟩
        have ho3 := own_drawn17 (dUnhide HO) hd3 hb1
        clear C2 HO p2
        have hlt' := ho3.lt
        have HC3 := dHide hc3
        have HD3 := dHide ((dUnhide HD).trans hd3)
        have hs3 := hd3.size
        have ba3 : ∀ o, Below w3.heap.size w3 (w3.alloc o) := fun o => (Below.refl _ _).alloc (Nat.le_refl _) o
        clear hc3 hd3 HD
        go_wp2_with (at_builtin; refine appN _ rfl _ _ rfl n1 _ xs rfl (ho3.alloc _) ⟨w3.heap.size, 0, none⟩ 1 1 [y] rfl rfl (one_int _ _ _) ?c3 ?c4 ?_)
        case c3 => simp; omega
        case c4 => simp; omega
        intro v' w4 hown' hgrow
        have hs4 : n1 ≤ w4.heap.size := by have := hgrow.size; simp at this; omega
        have HC4 := dHide (BxZ.grown (BxZ.below (dUnhide HC3) (ba3 (.cells #[.int .i64 y] 3))) hgrow (fun e => by have := (hlt' _ e).1; omega))
        have HD4 := dHide (((dUnhide HD3).trans (Drawn.of_below (ba3 (.cells #[.int .i64 y] 3)))).grown hgrow (fun k hk => by have := (hlt' k hk).1; omega))
        have hown4 := own_lenN hown'
        clear ho3 hown' hgrow hlt' HC3 HD3
        go_wp2
        go_roundw
        case rel => exact ⟨k + 1, xs ++ [y], p', ok', by go_num, by simp; omega, by omega, by omega, fun h => by have := hpk h; omega, hpl, by rw [hj2]; exact dUnhide HK2, hown4, HC4, HD4, hs4⟩
        case measure => simp [intOf]; omega
    · have e0 : n - k = 0 := by omega
      have G := dHide (dUnhide GO (by rw [e0]; exact rdK_zero bs p okb))
      clear GO HK HC HD CN HV p2
      go_wp2
      go_ret
      exact dUnhide G
end Go.Proofs.YthndkkjgjhgdnaaDoor
namespace Go.Proofs.YthndkkjgjhgdnaaDoor
open Go.ChangeShapes Go.WideShapes Go.ChangeAt Go.RowKit
set_option linter.unusedVariables false
set_option linter.unusedSimpArgs false
set_option maxRecDepth 100000

/-- A text that is read by the cursor, and where it is then. -/
def rdT (bs : List UInt8) (q : Nat) (ok : Bool) : List UInt8 × Nat × Bool := if ok then (match gtextZ bs (q : Int) with | some (x, p) => (x, p, true) | none => ([], q, false)) else ([], q, false)
theorem rdT_off (bs : List UInt8) (q : Nat) : rdT bs q false = ([], q, false) := rfl
theorem rdT_none {bs : List UInt8} {q : Nat} (ok : Bool) (h : gtextZ bs (q : Int) = none) : rdT bs q ok = ([], q, false) := by
  cases ok
  · rfl
  · simp [rdT, h]
theorem rdT_some {bs : List UInt8} {q p : Nat} {x : List UInt8} (h : gtextZ bs (q : Int) = some (x, p)) : rdT bs q true = (x, p, true) := by simp [rdT, h]
set_option maxHeartbeats 4000000 in
theorem specText17_any (B cb : Nat) (v : Value) (bs : List UInt8) (q : Nat) (ok : Bool) (w : World) (hc : Cu w B cb v q ok) (hv : Bs w v bs) (hl : bs.length ≤ 1048576) :
    Calls Tryd.prog 42 #[.pointer (some ⟨cb, 0, none⟩)] w fun e w' => e = .returned (.string ⟨(rdT bs q ok).1.toArray⟩) ∧ Cu w' B cb v (rdT bs q ok).2.1 (rdT bs q ok).2.2 ∧ Drawn cb w w' := by
  have CG := dHide fun W (hb : Below w.heap.size w W) => specGetText_same v bs (q : Int) W (hv.below hb) (by omega)
  obtain ⟨-, a, cap, rfl, -⟩ := hv
  have HC := dHide fun W (hb : Below w.heap.size w W) => BxZ.below hc hb
  cases hz : gtextZ bs (q : Int) with
  | none =>
    have HR : Hid (rdT bs q ok = ([], q, false)) := rdT_none ok hz
    have CN := dHide fun W (hb : Below w.heap.size w W) => (dUnhide CG W hb).mono fun e w' h => (⟨by rw [h.1, hz]; rfl, h.2⟩ : e = .returned (.tuple #[.string ⟨#[]⟩, .int .i64 0, .bool false]) ∧ w' = W)
    rw [dUnhide HR]
    clear hz
    obtain ⟨b0, -⟩ := hc.2 0 _ rfl
    obtain ⟨b1, -⟩ := hc.2 1 _ rfl
    clear HR CG
    go_enter Tryd.func42, Tryd.ntmps42
    go_wp2_with fail
    go_quiet ((go_at_call 63; exact Calls.quiet_of_same (dUnhide CN _ (below_drewN (Below.refl _ _) _))))
    have Xd := dUnhide HC (w.drewN nq) (below_drewN (Below.refl _ _) nq)
    have Dd := (Drawn.refl cb w).drewN nq
    obtain ⟨d0, -⟩ := Xd.2 0 _ rfl
    obtain ⟨d1, g1⟩ := Xd.2 1 _ rfl
    obtain ⟨d2, g2⟩ := Xd.2 2 _ rfl
    generalize w.drewN nq = wd at *
    have F := dHide (And.intro (Xd.put 2 (.bool false)) (Dd.setCell 2 (.bool false)))
    clear Xd Dd CN HC hc
    go_wp2
    go_ret
    exact ⟨rfl, (dUnhide F).1, (dUnhide F).2⟩
  | some r =>
    obtain ⟨x, p⟩ := r
    have CN := dHide fun W (hb : Below w.heap.size w W) => (dUnhide CG W hb).mono fun e w' h => (⟨by rw [h.1, hz]; simp [gtextT], h.2⟩ : e = .returned (.tuple #[.string ⟨x.toArray⟩, .int .i64 (p : Int), .bool true]) ∧ w' = W)
    cases ok
    case false =>
      have HR : Hid (rdT bs q false = ([], q, false)) := rdT_off bs q
      rw [dUnhide HR]
      clear hz
      obtain ⟨b0, -⟩ := hc.2 0 _ rfl
      obtain ⟨b1, -⟩ := hc.2 1 _ rfl
      clear HR CG
      go_enter Tryd.func42, Tryd.ntmps42
      go_wp2_with fail
      go_quiet ((go_at_call 63; exact Calls.quiet_of_same (dUnhide CN _ (below_drewN (Below.refl _ _) _))))
      have Xd := dUnhide HC (w.drewN nq) (below_drewN (Below.refl _ _) nq)
      have Dd := (Drawn.refl cb w).drewN nq
      obtain ⟨d0, -⟩ := Xd.2 0 _ rfl
      obtain ⟨d1, g1⟩ := Xd.2 1 _ rfl
      obtain ⟨d2, g2⟩ := Xd.2 2 _ rfl
      generalize w.drewN nq = wd at *
      have F := dHide (And.intro (Xd.put 2 (.bool false)) (Dd.setCell 2 (.bool false)))
      clear Xd Dd CN HC hc
      go_wp2
      go_ret
      exact ⟨rfl, (dUnhide F).1, (dUnhide F).2⟩
    case true =>
      have HR : Hid (rdT bs q true = (x, p, true)) := rdT_some hz
      rw [dUnhide HR]
      clear hz
      obtain ⟨b0, -⟩ := hc.2 0 _ rfl
      obtain ⟨b1, -⟩ := hc.2 1 _ rfl
      clear HR CG
      go_enter Tryd.func42, Tryd.ntmps42
      go_wp2_with fail
      go_quiet ((go_at_call 63; exact Calls.quiet_of_same (dUnhide CN _ (below_drewN (Below.refl _ _) _))))
      have Xd := dUnhide HC (w.drewN nq) (below_drewN (Below.refl _ _) nq)
      have Dd := (Drawn.refl cb w).drewN nq
      obtain ⟨d0, -⟩ := Xd.2 0 _ rfl
      obtain ⟨d1, g1⟩ := Xd.2 1 _ rfl
      obtain ⟨d2, g2⟩ := Xd.2 2 _ rfl
      generalize w.drewN nq = wd at *
      have F := dHide (And.intro (Xd.put 1 (.int .i64 (p : Int))) (Dd.setCell 1 (.int .i64 (p : Int))))
      clear Xd Dd CN HC hc
      go_wp2
      go_ret
      exact ⟨rfl, (dUnhide F).1, (dUnhide F).2⟩
/-- All was read, and nothing was wrong. -/
def endB (bs : List UInt8) (q : Nat) (ok : Bool) : Bool := ok && decide (q = bs.length)
set_option maxHeartbeats 4000000 in
theorem specEnd17_any (B cb : Nat) (v : Value) (bs : List UInt8) (q : Nat) (ok : Bool) (w w0 : World) (hc : Cu w B cb v q ok) (hv : Bs w0 v bs) :
    Calls Tryd.prog 32 #[.pointer (some ⟨cb, 0, none⟩)] w fun e w' => e = .returned (.bool (endB bs q ok)) ∧ Below w.heap.size w w' := by
  obtain ⟨-, a, cap, rfl, -⟩ := hv
  obtain ⟨b0, -⟩ := hc.2 0 _ rfl
  obtain ⟨b1, -⟩ := hc.2 1 _ rfl
  obtain ⟨b2, -⟩ := hc.2 2 _ rfl
  clear hc
  have E : Hid (endB bs q ok = (ok && decide (q = bs.length))) := rfl
  rw [dUnhide E]
  clear E
  cases ok
  · go_enter Tryd.func32, Tryd.ntmps32
    go_wp2_with fail
    go_quiet (fail)
    go_wp2
    go_ret
    exact ⟨rfl, below_drewN (Below.refl _ _) nq⟩
  · have hq : (q : Int) = (bs.length : Int) ∨ (q : Int) ≠ (bs.length : Int) := by omega
    rcases hq with hq | hq
    · have e : Hid (decide (q = bs.length) = true) := by simp [Hid]; omega
      rw [dUnhide e]
      clear e
      go_enter Tryd.func32, Tryd.ntmps32
      go_wp2_with fail
      go_quiet (fail)
      go_wp2
      go_ret
      exact ⟨by simp [hq], below_drewN (Below.refl _ _) nq⟩
    · have e : Hid (decide (q = bs.length) = false) := by simp [Hid]; omega
      rw [dUnhide e]
      clear e
      go_enter Tryd.func32, Tryd.ntmps32
      go_wp2_with fail
      go_quiet (fail)
      go_wp2
      go_ret
      exact ⟨by simp [hq], below_drewN (Below.refl _ _) nq⟩
end Go.Proofs.YthndkkjgjhgdnaaDoor
namespace Go.Proofs.YthndkkjgjhgdnaaDoor
open Go.ChangeShapes Go.WideShapes Go.ChangeAt Go.RowKit
set_option linter.unusedVariables false
set_option linter.unusedSimpArgs false
set_option maxRecDepth 100000

open Classical in
/-- ConfigRead. -/
noncomputable def cfgR (bs : List UInt8) : List Int × Int × Bool :=
  if endB bs (rdN bs (rdL bs 0 true).2.1 (rdL bs 0 true).2.2).2.1 (rdN bs (rdL bs 0 true).2.1 (rdL bs 0 true).2.2).2.2 = true ∧ cfgP (rdL bs 0 true).1 (rdN bs (rdL bs 0 true).2.1 (rdL bs 0 true).2.2).1 then ((rdL bs 0 true).1, (rdN bs (rdL bs 0 true).2.1 (rdL bs 0 true).2.2).1, true) else ([], 0, false)
theorem rdK_le (bs : List UInt8) (n q : Nat) (ok : Bool) (hq : q ≤ bs.length) : (rdK bs n q ok).2.1 ≤ bs.length := by
  induction n generalizing q ok with
  | zero => exact hq
  | succ n ih =>
    cases ok
    · exact hq
    · rw [rdK_succ]
      exact ih _ _ (rdN_step hq).2.2.1
theorem rdN_le (bs : List UInt8) (q : Nat) (ok : Bool) (hq : q ≤ bs.length) : (rdN bs q ok).2.1 ≤ bs.length := by
  cases ok
  · exact hq
  · exact (rdN_step hq).2.2.1
theorem rdL_le (bs : List UInt8) (q : Nat) (ok : Bool) (hq : q ≤ bs.length) : (rdL bs q ok).2.1 ≤ bs.length := rdK_le _ _ _ _ (rdN_le _ _ _ hq)
theorem OwnN.setNe17 {w : World} {lo b o : Nat} {v : Value} {xs : List Int} (h : OwnN w lo v xs) (hb : xs = [] ∨ blockOf v ≠ b) (u : Value) : OwnN (w.setCell ⟨b, o, none⟩ u) lo v xs := by
  obtain ⟨h0, a, cap, rfl, hcap, h⟩ := h
  refine ⟨h0, a, cap, rfl, hcap, ?_⟩
  rcases h with h | ⟨g, off, rfl, hg, hc⟩
  · exact .inl h
  · rcases hb with hb | hb
    · exact .inl hb
    · exact .inr ⟨g, off, rfl, hg, fun i hi => ⟨set_other (hc i hi).1 (.inl hb), (World.frozen?_setCell _ _ _ _).trans (hc i hi).2⟩⟩
theorem OwnN.ne17 {w : World} {lo : Nat} {v : Value} {xs : List Int} (h : OwnN w lo v xs) : xs = [] ∨ blockOf v ≠ w.heap.size := by
  obtain ⟨h0, a, cap, rfl, hcap, h⟩ := h
  rcases h with h | ⟨g, off, rfl, hg, hc⟩
  · exact .inl h
  · cases xs with
    | nil => exact .inl rfl
    | cons x xs =>
      have := dCell_lt (hc 0 (by simp)).1
      exact .inr (by simp only [blockOf] at this ⊢; omega)
theorem OwnN.drawn17 {bk : Nat} {w w' : World} {base : Nat} {v : Value} {xs : List Int} (h : OwnN w base v xs) (hd : Drawn bk w w') (hb : bk < base) : OwnN w' base v xs := by
  obtain ⟨h0, a, cap, rfl, hcap, h⟩ := h
  refine ⟨h0, a, cap, rfl, hcap, ?_⟩
  rcases h with h | ⟨b, off, rfl, hg, hc⟩
  · exact .inl h
  · exact .inr ⟨b, off, rfl, hg, fun i hi => ⟨hd.cell (hc i hi).1 (by omega), (hd.frozen (by omega) (dCell_lt (hc i hi).1)).trans (hc i hi).2⟩⟩
theorem below_two17 {B b : Nat} {w w' : World} (hb : Below B w w') (h : B ≤ b) (u v : Value) : Below B w ((w'.setCell ⟨b, 0, none⟩ u).setCell ⟨b, 1, none⟩ v) := (hb.setCell (p := ⟨b, 0, none⟩) h u).setCell (p := ⟨b, 1, none⟩) h v
theorem BxZ.two17 {w : World} {B b : Nat} {p q : Value} (h : BxZ w B b [p, q]) (u v : Value) : Bx ((w.setCell ⟨b, 0, none⟩ u).setCell ⟨b, 1, none⟩ v) b [u, v] := ((h.put 0 u).put 1 v).bx
theorem Bs.ne17 {w : World} {v : Value} {bs : List UInt8} (h : Bs w v bs) : bs = [] ∨ blockOf v ≠ w.heap.size + 1 := by
  by_cases e : bs = []
  · exact .inl e
  · exact .inr (by have := h.lt e; omega)
theorem cfgR_yes (bs : List UInt8) (h : endB bs (rdN bs (rdL bs 0 true).2.1 (rdL bs 0 true).2.2).2.1 (rdN bs (rdL bs 0 true).2.1 (rdL bs 0 true).2.2).2.2 = true ∧ cfgP (rdL bs 0 true).1 (rdN bs (rdL bs 0 true).2.1 (rdL bs 0 true).2.2).1) : cfgR bs = ((rdL bs 0 true).1, (rdN bs (rdL bs 0 true).2.1 (rdL bs 0 true).2.2).1, true) := if_pos h
theorem cfgR_no (bs : List UInt8) (h : ¬ (endB bs (rdN bs (rdL bs 0 true).2.1 (rdL bs 0 true).2.2).2.1 (rdN bs (rdL bs 0 true).2.1 (rdL bs 0 true).2.2).2.2 = true ∧ cfgP (rdL bs 0 true).1 (rdN bs (rdL bs 0 true).2.1 (rdL bs 0 true).2.2).1)) : cfgR bs = ([], 0, false) := if_neg h
set_option maxHeartbeats 4000000 in
theorem specConfigRead_any (v : Value) (bs : List UInt8) (w : World) (hv : Bs w v bs) (hl : bs.length ≤ 1048576) :
    Calls Tryd.prog 12 #[v] w fun e w' => (∃ u, e = .returned (.tuple #[.agg #[u, .int .i64 (cfgR bs).2.1], .bool (cfgR bs).2.2]) ∧ OwnN w' w.heap.size u (cfgR bs).1) ∧ Below w.heap.size w w' := by
  have ba : ∀ (w : World) o, Below w.heap.size w (w.alloc o) := fun w o => (Below.refl _ _).alloc (Nat.le_refl _) o
  have hv0 := hv
  obtain ⟨-, a, cap, rfl, -⟩ := hv0
  have hne := hv.ne17
  have B0 := belowThen (ba w (.cells #[.slice none 0 0, .int .i64 0] 26)) (ba _ (.cells #[.slice a bs.length cap, .int .i64 0, .bool true] 56))
  have C0 : Cu ((w.alloc (.cells #[.slice none 0 0, .int .i64 0] 26)).alloc (.cells #[.slice a bs.length cap, .int .i64 0, .bool true] 56)) w.heap.size (w.heap.size + 1) (.slice a bs.length cap) 0 true := by
    have := BxZ.new (B := w.heap.size) (w.alloc (.cells #[.slice none 0 0, .int .i64 0] 26)) [.slice a bs.length cap, .int .i64 0, .bool true] 56 (by simp)
    simpa [Cu] using this
  have R0 : BxZ ((w.alloc (.cells #[.slice none 0 0, .int .i64 0] 26)).alloc (.cells #[.slice a bs.length cap, .int .i64 0, .bool true] 56)) w.heap.size w.heap.size [.slice none 0 0, .int .i64 0] := (BxZ.new (B := w.heap.size) w [.slice none 0 0, .int .i64 0] 26 (Nat.le_refl _)).below (ba _ _)
  have e3 : ((w.alloc (.cells #[.slice none 0 0, .int .i64 0] 26)).alloc (.cells #[.slice a bs.length cap, .int .i64 0, .bool true] 56)).heap.size = w.heap.size + 2 := by simp
  have V0 := hv.below B0
  have EY : Hid (_ → _) := cfgR_yes bs
  have EN : Hid (_ → _) := cfgR_no bs
  generalize cfgR bs = CR at *
  go_enter Tryd.func12, Tryd.ntmps12
  go_wp2_with fail
  have hl0 := rdL_le bs 0 true (Nat.zero_le _)
  generalize (w.alloc (.cells #[.slice none 0 0, .int .i64 0] 26)).alloc (.cells #[.slice a bs.length cap, .int .i64 0, .bool true] 56) = w0 at *
  have C1 := specNums17_any w.heap.size (w.heap.size + 1) _ bs 0 true w0 C0 V0 hl (Nat.zero_le _) hne
  refine C1.mono ?_
  rintro e w1 ⟨⟨u, rfl, O1⟩, c1, d1⟩
  have V1 := V0.drawn d1 hne
  have hs1 := d1.size
  have R1 := R0.drawn d1 (by omega)
  generalize rdL bs 0 true = L at *
  obtain ⟨ds, q1, ok1⟩ := L
  simp only at hl0 O1 c1 EY EN
  obtain ⟨-, ua, uc, rfl, -⟩ := O1.bs
  have hX := BxZ.new (B := w.heap.size) w1 [.slice ua ds.length uc, .int .i64 0] 26 (by omega)
  have B1 : Below w.heap.size w w1 := d1.below B0 (by omega) (by omega)
  have hn1 := rdN_le bs q1 ok1 hl0
  have bX := ba w1 (.cells #[.slice ua ds.length uc, .int .i64 0] 26)
  have c1' := BxZ.below c1 bX
  have C2 := specNum17_any w.heap.size (w.heap.size + 1) _ bs q1 ok1 _ c1' (V1.below bX) hl
  have V2 := V1.below bX
  have B2 := belowThen B1 bX
  have O2 := O1.below bX
  have hs2 := bX.size
  have R2 := R1.below bX
  have hnu : ds = [] ∨ blockOf (.slice ua ds.length uc) ≠ w1.heap.size := O1.ne17
  clear C1 C0 V0 B0 c1 c1' V1 d1 B1 O1 bX hv R0 R1
  go_wp2_with fail
  generalize hx : w1.alloc (.cells #[.slice ua ds.length uc, .int .i64 0] 26) = w2 at *
  refine C2.mono ?_
  rintro e w3 ⟨rfl, c3, d3⟩
  have V3 := V2.drawn d3 hne
  have hs3 := d3.size
  have R3 := R2.drawn d3 (by omega)
  generalize rdN bs q1 ok1 = R at *
  obtain ⟨y, q2, ok2⟩ := R
  simp only at hn1 c3 EY EN
  have X3 := hX.drawn d3 (by omega)
  have O3 := O2.drawn17 d3 (by omega)
  have B3 : Below w.heap.size w w3 := d3.below B2 (by omega) (by omega)
  obtain ⟨g0, g1⟩ := X3.2 1 _ rfl
  have X4 := X3.put 1 (.int .i64 y)
  have c4 := BxZ.far (b' := w1.heap.size) (o := 1) c3 (by omega) (.int .i64 y)
  have O4 := O3.setNe17 hnu (o := 1) (.int .i64 y)
  have R4 := dHide (R3.far (b' := w1.heap.size) (o := 1) (by omega) (.int .i64 y))
  have B4 := B3.setCell (p := ⟨w1.heap.size, 1, none⟩) (by simp only; omega) (.int .i64 y)
  clear C2 hX V2 O2 B2 X3 c3 O3 B3 d3 hx R2 R3
  have CE := specEnd17_any w.heap.size (w.heap.size + 1) _ bs q2 ok2 _ w3 c4 V3
  have Z4 := X4.bx
  have HX4 := dHide Z4
  clear c4 V3 X4
  by_cases hok : endB bs q2 ok2 = true
  · rw [hok] at CE
    have CC := dHide fun W (hb : Below (w3.setCell ⟨w1.heap.size, 1, none⟩ (.int .i64 y)).heap.size (w3.setCell ⟨w1.heap.size, 1, none⟩ (.int .i64 y)) W) => specCfg_any (.slice ua ds.length uc) ds y W (O4.below hb).bs
    have HO := dHide fun W (hb : Below (w3.setCell ⟨w1.heap.size, 1, none⟩ (.int .i64 y)).heap.size (w3.setCell ⟨w1.heap.size, 1, none⟩ (.int .i64 y)) W) => O4.below hb
    clear O4 Z4
    go_wp2_with fail
    clear g0 g1
    generalize w3.setCell ⟨w1.heap.size, 1, none⟩ (.int .i64 y) = w4 at *
    refine CE.mono ?_
    rintro e w5 ⟨rfl, b5⟩
    have C6 := dUnhide CC w5 b5
    have B5 := belowThen B4 b5
    have Z5 := (dUnhide HX4).below b5
    have O5 := dHide (dUnhide HO w5 b5)
    have z0 := Z5 0 _ rfl
    have z1 := Z5 1 _ rfl
    have HZ5 := dHide Z5
    have R5 := dHide ((dUnhide R4).below b5)
    clear CE CC HO HX4 Z5 B4 b5 R4
    go_wp2_with fail
    refine C6.mono ?_
    rintro e w6 ⟨hr6, b6⟩
    have B6 := belowThen B5 b6
    have O6 := dHide ((dUnhide O5).below b6)
    have Z6 := (dUnhide HZ5).below b6
    have z0' := Z6 0 _ rfl
    have z1' := Z6 1 _ rfl
    have R6 := (dUnhide R5).below b6
    obtain ⟨r0, f0⟩ := R6.2 0 _ rfl
    obtain ⟨r1, f1⟩ := R6.2 1 _ rfl
    have OF : ∀ x z, OwnN ((w6.setCell ⟨w.heap.size, 0, none⟩ x).setCell ⟨w.heap.size, 1, none⟩ z) w.heap.size (.slice ua ds.length uc) ds := fun x z => (((dUnhide O6).far (b := w.heap.size) (o := 0) (by omega) x).far (b := w.heap.size) (o := 1) (by omega) z).mono (by omega)
    have OF := dHide OF
    have BF := dHide fun x z => below_two17 B6 (Nat.le_refl w.heap.size) x z
    have RF := dHide fun x z => R6.two17 x z
    clear C6 O5 HZ5 B5 z0 z1 Z6 R5 R6 O6 B6
    by_cases hp : cfgP ds y
    · obtain rfl := hr6.of_yes hp
      have eC := dUnhide EY ⟨hok, hp⟩
      subst eC
      clear EY EN hr6
      go_wp2
      generalize hV : (w6.setCell ⟨w.heap.size, 0, none⟩ (.slice ua ds.length uc)).setCell ⟨w.heap.size, 1, none⟩ (.int .i64 y) = V at *
      have o := dUnhide OF (.slice ua ds.length uc) (.int .i64 y)
      have b := dUnhide BF (.slice ua ds.length uc) (.int .i64 y)
      have r := dUnhide RF (.slice ua ds.length uc) (.int .i64 y)
      rw [hV] at o b r
      have q0 := r 0 _ rfl
      have q1 := r 1 _ rfl
      exact bodyPost_ret (v := .tuple #[.agg #[.slice ua ds.length uc, .int .i64 y], .bool true]) (by simp [results, Tryd.results12, go_sem, q0, q1]) rfl ⟨⟨_, rfl, o⟩, b⟩
    · obtain rfl := hr6.of_no hp
      have eC := dUnhide EN (fun h => hp h.2)
      subst eC
      clear EY EN hr6 OF
      go_wp2
      generalize hV : (w6.setCell ⟨w.heap.size, 0, none⟩ (.slice none 0 0)).setCell ⟨w.heap.size, 1, none⟩ (.int .i64 0) = V at *
      have b := dUnhide BF (.slice none 0 0) (.int .i64 0)
      have r := dUnhide RF (.slice none 0 0) (.int .i64 0)
      rw [hV] at b r
      have q0 := r 0 _ rfl
      have q1 := r 1 _ rfl
      exact bodyPost_ret (v := .tuple #[.agg #[.slice none 0 0, .int .i64 0], .bool false]) (by simp [results, Tryd.results12, go_sem, q0, q1]) rfl ⟨⟨_, rfl, by simp, _, _, rfl, by simp, .inl rfl⟩, b⟩
  · rw [Bool.not_eq_true] at hok
    have eC := dUnhide EN (fun h => by rw [hok] at h; exact absurd h.1 (by simp))
    subst eC
    rw [hok] at CE
    clear EY EN O4 HX4 Z4
    go_wp2_with fail
    clear g0 g1
    generalize w3.setCell ⟨w1.heap.size, 1, none⟩ (.int .i64 y) = w4 at *
    refine CE.mono ?_
    rintro e w5 ⟨rfl, b5⟩
    have B5 := belowThen B4 b5
    have R5 := (dUnhide R4).below b5
    obtain ⟨r0, f0⟩ := R5.2 0 _ rfl
    obtain ⟨r1, f1⟩ := R5.2 1 _ rfl
    have BF := dHide fun x z => below_two17 B5 (Nat.le_refl w.heap.size) x z
    have RF := dHide fun x z => R5.two17 x z
    clear CE R4 R5 B5 B4
    go_wp2
    generalize hV : (w5.setCell ⟨w.heap.size, 0, none⟩ (.slice none 0 0)).setCell ⟨w.heap.size, 1, none⟩ (.int .i64 0) = V at *
    have b := dUnhide BF (.slice none 0 0) (.int .i64 0)
    have r := dUnhide RF (.slice none 0 0) (.int .i64 0)
    rw [hV] at b r
    have q0 := r 0 _ rfl
    have q1 := r 1 _ rfl
    exact bodyPost_ret (v := .tuple #[.agg #[.slice none 0 0, .int .i64 0], .bool false]) (by simp [results, Tryd.results12, go_sem, q0, q1]) rfl ⟨⟨_, rfl, by simp, _, _, rfl, by simp, .inl rfl⟩, b⟩
end Go.Proofs.YthndkkjgjhgdnaaDoor
namespace Go.Proofs.YthndkkjgjhgdnaaDoor
open Go.ChangeShapes Go.WideShapes Go.ChangeAt Go.RowKit
set_option linter.unusedVariables false
set_option linter.unusedSimpArgs false
set_option maxRecDepth 100000

/-- The bytes of a config. -/
def cfgB (ds : List Int) (cop : Int) : List UInt8 := lstB ds ++ numB cop.toNat
open Classical in
/-- ConfigPack. -/
noncomputable def cfgM (ds : List Int) (cop : Int) : List UInt8 × Bool := if cfgP ds cop then (cfgB ds cop, true) else ([], false)
theorem cfgM_yes {ds : List Int} {cop : Int} (h : cfgP ds cop) : cfgM ds cop = (cfgB ds cop, true) := if_pos h
theorem cfgM_no {ds : List Int} {cop : Int} (h : ¬ cfgP ds cop) : cfgM ds cop = ([], false) := if_neg h
/-- A list's bytes, in a world that grew. -/
theorem list_at (v : Value) (xs : List Int) (w0 W : World) (hv : Ns W v xs) (h0 : natI xs) (hl : xs.length ≤ 1048576) (hb : Below w0.heap.size w0 W) :
    Calls Tryd.prog 25 #[v] W fun e w' => ∃ g cap, e = .returned (.slice (some ⟨g, 0, none⟩) (lstB xs).length cap) ∧ w'.ownsRow w0.heap.size 5 1 (.slice (some ⟨g, 0, none⟩) (lstB xs).length cap) (lstB xs).length (bcells (lstB xs)) ∧ W.grownBy w' none ∧ Below w0.heap.size w0 w' := by
  refine (specList17_any v xs W hv h0 hl).mono fun e w' ⟨⟨u, h1, h2⟩, h3⟩ => ?_
  obtain ⟨g, cap, rfl⟩ := own_some h2 (lstB_pos xs)
  exact ⟨g, cap, h1, own_mono h2 hb.size, Below.row h3 none, hb.trans (h3.mono hb.size)⟩
set_option maxHeartbeats 4000000 in
theorem specConfigPack_any (sv : Value) (ds : List Int) (cop : Int) (w : World) (hv : Ns w sv ds) :
    Calls Tryd.prog 8 #[.agg #[sv, .int .i64 cop]] w fun e w' => (∃ u, e = .returned (.tuple #[u, .bool (cfgM ds cop).2]) ∧ OwnB w' w.heap.size u (cfgM ds cop).1 ∧ ((cfgM ds cop).1 ≠ [] → w'.ownsRow w.heap.size 5 1 u (cfgM ds cop).1.length (bcells (cfgM ds cop).1))) ∧ Below w.heap.size w w' := by
  have ba : ∀ (w : World) o, Below w.heap.size w (w.alloc o) := fun w o => (Below.refl _ _).alloc (Nat.le_refl _) o
  have HV := dHide fun W (hb : Below w.heap.size w W) => hv.below hb
  have C1 := dHide fun W (hb : Below w.heap.size w W) => specCfg_any sv ds cop W (hv.below hb)
  obtain ⟨-, a, cap, rfl, -, -⟩ := hv
  have PY : Hid (cfgP ds cop → cfgM ds cop = (cfgB ds cop, true)) := cfgM_yes
  have PN : Hid (¬ cfgP ds cop → cfgM ds cop = ([], false)) := cfgM_no
  generalize cfgM ds cop = M at *
  have X0 := Bx.new w [.slice a ds.length cap, .int .i64 cop] 26
  have B0 := ba w (.cells #[.slice a ds.length cap, .int .i64 cop] 26)
  go_enter Tryd.func8, Tryd.ntmps8
  go_wp2_with fail
  generalize w.alloc (.cells #[.slice a ds.length cap, .int .i64 cop] 26) = w0 at *
  refine (dUnhide C1 _ B0).mono ?_
  rintro e w1 ⟨hr1, b1⟩
  have B1 := belowThen B0 b1
  have X1 := X0.below b1
  have k0 := X1 0 _ rfl
  have k1 := X1 1 _ rfl
  have HX := dHide X1
  clear X0 B0 b1 C1 X1
  by_cases hs : cfgP ds cop
  · obtain rfl := hr1.of_yes hs
    have eM := dUnhide PY hs
    obtain ⟨⟨p1, p2⟩, ⟨p3, p4⟩, p5⟩ := hs
    have hn : natI ds := fun x hx => by
      obtain ⟨i, hi, rfl⟩ := List.getElem_of_mem hx
      have := p5 i hi
      omega
    obtain ⟨n, rfl⟩ := Int.eq_ofNat_of_zero_le (show 0 ≤ cop by omega)
    have ES : cfgB ds (n : Int) = lstB ds ++ numB n := rfl
    rw [ES] at eM
    subst eM
    have HN := dHide fun W (hb : Below w1.heap.size w1 W) => list_at (.slice a ds.length cap) ds w1 W (dUnhide HV W (belowThen B1 hb)) hn (by omega) hb
    have hll := lstB_len ds
    have hnl := numB_len n
    have hbr : Below w1.heap.size w1 w1.drew := (Below.refl _ _).drew
    have HC : Hid (∀ W, Below w1.heap.size w1 W → W.cell? ⟨w.heap.size, 0, none⟩ = some (.slice a ds.length cap) ∧ W.cell? ⟨w.heap.size, 1, none⟩ = some (.int .i64 (n : Int))) := fun W hb => ⟨((dUnhide HX).below hb) 0 _ rfl, ((dUnhide HX).below hb) 1 _ rfl⟩
    clear hr1 p5 HV HX hn PY PN ES
    go_wp2_with fail
    go_cut [2, 3] (fun ov s3 wx => s3 = .bool true ∧ wx.ownsRow w1.heap.size 5 1 ov (lstB ds ++ numB n).length (bcells (lstB ds ++ numB n)) ∧ Below w1.heap.size w1 wx)
    case first =>
      go_region_held3 (fun W => W.cell? ⟨w.heap.size, 0, none⟩ = some (.slice a ds.length cap) ∧ W.cell? ⟨w.heap.size, 1, none⟩ = some (.int .i64 (n : Int))) (first | exact ⟨q20, q22⟩ | exact ⟨q30, q32⟩ | exact ⟨q40, q42⟩ | go_keep)
        (first
          | (go_at_call 25; refine (dUnhide HN _ (by assumption)).mono ?_; rintro e w2 ⟨g2, c2, rfl, o2, r2, b2⟩; obtain ⟨q20, q22⟩ := dUnhide HC w2 b2)
          | (go_at_call 26; refine (put_at n (by omega) w1 _ (by assumption)).mono ?_; rintro e w3 ⟨g3, c3, rfl, o3, r3, b3⟩; obtain ⟨q30, q32⟩ := dUnhide HC w3 b3; have o2' := own_kept o2 r3)
          | (refine step_app8 rfl _ _ rfl w1.heap.size _ (lstB ds) rfl o2' _ _ _ (numB n) rfl o3 (by omega) b3.size ?_; intro v4 w4 o4 r4; have b4 := b3.grown r4 b3.size (fun k hk => (o2'.lt k hk).1); obtain ⟨q40, q42⟩ := dUnhide HC w4 b4))
      all_goals
        go_wp2_with fail
        go_meet
        case rel => exact ⟨rfl, o4, b4⟩
    case rest =>
      obtain ⟨rfl, ho, hb⟩ := hcut
      have Q2 := dHide (own_mono ho B1.size)
      have Q := dHide (ownB_of_row (dUnhide Q2))
      have BF := belowThen B1 hb
      clear ho hb HC HN
      go_wp2
      go_ret2
      refine ⟨⟨_, rfl, dUnhide Q, fun _ => ?_⟩, BF⟩
      first | exact dUnhide Q2 | (have q := dUnhide Q2; rw [List.length_append] at q; exact q)
  · obtain rfl := hr1.of_no hs
    have eM := dUnhide PN hs
    subst eM
    clear hr1 hs HV HX PY PN
    go_wp2
    go_ret2
    exact ⟨⟨_, rfl, by simp, _, _, rfl, by simp, .inl rfl⟩, B1.alloc B1.size _⟩
end Go.Proofs.YthndkkjgjhgdnaaDoor
namespace Go.Proofs.YthndkkjgjhgdnaaDoor
open Go.ChangeShapes Go.WideShapes Go.ChangeAt Go.RowKit
set_option linter.unusedVariables false
set_option linter.unusedSimpArgs false
set_option maxRecDepth 100000

/-- An event that is read by the cursor, and where it is then. -/
def rdE (bs : List UInt8) (q : Nat) (ok : Bool) : Ev × Nat × Bool :=
  (⟨(rdN bs q ok).1, (rdN bs (rdN bs q ok).2.1 (rdN bs q ok).2.2).1, ⟨(rdT bs (rdN bs (rdN bs q ok).2.1 (rdN bs q ok).2.2).2.1 (rdN bs (rdN bs q ok).2.1 (rdN bs q ok).2.2).2.2).1.toArray⟩⟩, (rdT bs (rdN bs (rdN bs q ok).2.1 (rdN bs q ok).2.2).2.1 (rdN bs (rdN bs q ok).2.1 (rdN bs q ok).2.2).2.2).2)
def rdEs (bs : List UInt8) : Nat → Nat → Bool → List Ev × Nat × Bool
  | 0, q, ok => ([], q, ok)
  | n + 1, q, false => ([], q, false)
  | n + 1, q, true => ((rdE bs q true).1 :: (rdEs bs n (rdE bs q true).2.1 (rdE bs q true).2.2).1, (rdEs bs n (rdE bs q true).2.1 (rdE bs q true).2.2).2)
theorem rdEs_off (bs : List UInt8) (n q : Nat) : rdEs bs n q false = ([], q, false) := by cases n <;> rfl
theorem rdEs_zero (bs : List UInt8) (q : Nat) (ok : Bool) : rdEs bs 0 q ok = ([], q, ok) := rfl
theorem rdEs_succ (bs : List UInt8) (n q : Nat) : rdEs bs (n + 1) q true = ((rdE bs q true).1 :: (rdEs bs n (rdE bs q true).2.1 (rdE bs q true).2.2).1, (rdEs bs n (rdE bs q true).2.1 (rdE bs q true).2.2).2) := rfl
theorem rdT_step {bs : List UInt8} {q : Nat} (ok : Bool) (hq : q ≤ bs.length) : q ≤ (rdT bs q ok).2.1 ∧ (rdT bs q ok).2.1 ≤ bs.length := by
  cases ok
  · exact ⟨Nat.le_refl _, hq⟩
  cases hz : gtextZ bs (q : Int) with
  | none => rw [rdT_none true hz]; exact ⟨Nat.le_refl _, hq⟩
  | some p =>
    obtain ⟨x, k⟩ := p
    rw [rdT_some hz]
    unfold gtextZ at hz
    split at hz
    · cases hz
    · unfold gtextB at hz
      split at hz
      · cases hz
      · split at hz
        · simp only [Option.some.injEq, Prod.mk.injEq, Int.toNat_natCast] at hz
          rename_i hle
          simp only [Int.toNat_natCast] at hle
          obtain ⟨-, rfl⟩ := hz
          simp only
          omega
        · cases hz
theorem rdN_mono {bs : List UInt8} {q : Nat} (ok : Bool) (hq : q ≤ bs.length) : q ≤ (rdN bs q ok).2.1 ∧ (rdN bs q ok).2.1 ≤ bs.length ∧ ((rdN bs q ok).2.2 = true → q + 1 ≤ (rdN bs q ok).2.1) := by
  cases ok
  · exact ⟨Nat.le_refl _, hq, fun h => by cases h⟩
  · exact (rdN_step hq).2
theorem rdN_ok {bs : List UInt8} {q : Nat} {ok : Bool} (h : (rdN bs q ok).2.2 = true) : ok = true := by
  cases ok
  · cases h
  · rfl
theorem rdT_ok {bs : List UInt8} {q : Nat} {ok : Bool} (h : (rdT bs q ok).2.2 = true) : ok = true := by
  cases ok
  · cases h
  · rfl
theorem rdE_step {bs : List UInt8} {q : Nat} (hq : q ≤ bs.length) : q ≤ (rdE bs q true).2.1 ∧ (rdE bs q true).2.1 ≤ bs.length ∧ ((rdE bs q true).2.2 = true → q + 1 ≤ (rdE bs q true).2.1) := by
  have h1 := rdN_mono (bs := bs) true hq
  have h2 := rdN_mono (bs := bs) (rdN bs q true).2.2 h1.2.1
  have h3 := rdT_step (bs := bs) (rdN bs (rdN bs q true).2.1 (rdN bs q true).2.2).2.2 h2.2.1
  refine ⟨by unfold rdE; simp only; omega, by unfold rdE; simp only; omega, fun h => ?_⟩
  have h4 := h1.2.2 (rdN_ok (rdT_ok h |> fun h => h))
  unfold rdE
  simp only
  omega
end Go.Proofs.YthndkkjgjhgdnaaDoor
