/- Several texts in one: RdS, OpenV, RdO, PkG, PkH, PkI, PkL, OnB. -/
import Derived.Test.YthndkkjgjhgdnaaGreatDoorGk79
import Derived.Deep.DeepCutAuto
import Derived.Test.YthndkkjgjhgdnaaGreatDoorGk75
import Derived.Test.YthndkkjgjhgdnaaGreatDoorGk60
import Derived.Deep.RegionHeld3
import Derived.Test.YthndkkjgjhgdnaaGreatDoorGk61
namespace Go.Proofs.YthndkkjgjhgdnaaGreatDoor
open Go.ChangeShapes Go.WideShapes Go.ChangeAt Go.RowKit
set_option linter.unusedVariables false
set_option linter.unusedSimpArgs false
set_option maxRecDepth 100000

/-- A reader. -/
structure Rr where
  epoch : Int
  off : Int
  out : List Ev
def RdReader (v : Value) (m : Rr) (W : World) : Prop := ∃ sv, v = .agg #[.int .i64 m.epoch, .int .i64 m.off, sv] ∧ RdEventS sv m.out W
def OwReader (lo hi : Nat) (v : Value) (m : Rr) (W : World) : Prop := ∃ sv, v = .agg #[.int .i64 m.epoch, .int .i64 m.off, sv] ∧ OwEventS lo hi sv m.out W
def sizReader (m : Rr) : Nat := sizEventS m.out
def cntReader (m : Rr) : Nat := cntEventS m.out
def mkReader (k : Nat) (m : Rr) : Rr := ⟨m.epoch, m.off, mkEventS k m.out⟩
theorem OwReader.rd {lo hi : Nat} {v : Value} {m : Rr} {W : World} (h : OwReader lo hi v m W) : RdReader v m W := by
  obtain ⟨sv, h1, h2⟩ := h
  exact ⟨sv, h1, OwEventS.rd h2⟩
theorem RdReader.below {v : Value} {m : Rr} {W W' : World} (h : RdReader v m W) (b : Below W.heap.size W W') : RdReader v m W' := by
  obtain ⟨sv, h1, h2⟩ := h
  exact ⟨sv, h1, RdEventS.below h2 b⟩
theorem formReader {v : Value} {m : Rr} {W : World} (h : RdReader v m W) : ∃ a cap, v = .agg #[.int .i64 m.epoch, .int .i64 m.off, .slice a m.out.length cap] ∧ m.out.length ≤ 9223372036854775807 := by
  obtain ⟨sv, rfl, h⟩ := h
  obtain ⟨a, cap, rfl, h0⟩ := formEventS h
  exact ⟨a, cap, rfl, h0⟩
theorem OwReader.sits {lo hi : Nat} {w : World} {v : Value} {m : Rr} (h : OwReader lo hi v m w) (hf : hi ≤ w.heap.size) : Sits (OwReader lo hi v m) lo hi w := by
  obtain ⟨sv, h1, h2⟩ := h
  have s2 := OwG.sits h2 hf
  exact ⟨hf, fun W hW => ⟨sv, h1, s2.all W hW⟩⟩
theorem cntReader_le {m : Rr} (h : sizReader m ≤ 1048576) : cntReader m ≤ 3145728 := cntEventS_le h
end Go.Proofs.YthndkkjgjhgdnaaGreatDoor
namespace Go.Proofs.YthndkkjgjhgdnaaGreatDoor
open Go.ChangeShapes Go.WideShapes Go.ChangeAt Go.RowKit
set_option linter.unusedVariables false
set_option linter.unusedSimpArgs false
set_option maxRecDepth 100000
variable {H : Type} {enc : TypeId × Value → H} {W : World} {r : Reach} {b0 base : Nat} {held : Bool} {v : Value} {d : DataW H} {p : List MemPlace}

/-- An event of ints. -/
def fitEv (e : Ev) : Prop := (-9223372036854775808 ≤ e.kind ∧ e.kind ≤ 9223372036854775807) ∧ (-9223372036854775808 ≤ e.pl ∧ e.pl ≤ 9223372036854775807) ∧ e.data.size ≤ 9223372036854775807
def okReader (m : Rr) : Prop := okInt m.epoch ∧ okInt m.off ∧ ∀ e ∈ m.out, fitEv e
def IsReader (v : Value) (m : Rr) (w : World) : Prop := RdReader v m w ∧ okReader m
theorem txtR_of {m : Rr} (h : okReader m) : txtEv m.out := fun e he => (h.2.2 e he).2.2
theorem ev_cells {T : TypeId} {n : Nat} {cs : List Value} {x : DataW H × List MemPlace} {f0 f1 f2 : Field} (hu : Tryz.prog.underlying T = some (.struct #[f0, f1, f2])) (hC : Tryz.prog.cellsOf T = 3)
    (q0 : f0.type = 3 ∧ f0.offset = 0) (q1 : f1.type = 3 ∧ f1.offset = 1) (q2 : f2.type = 9 ∧ f2.offset = 2)
    (h : DataW.trod enc Tryz.prog W base (fun _ => true) held n T cs = some x) : ∃ e : Ev, cs = e.cl ∧ fitEv e := by
  obtain ⟨xs, n', _, rfl, hl, hlen, hf⟩ := DataW.trod_struct hu h
  rw [hC] at hl
  match cs, hl, xs, hlen with
  | [c0, c1, c2], _, [y0, y1, y2], _ =>
    have h0 := hf 0 f0 rfl
    have h1 := hf 1 f1 rfl
    have h2 := hf 2 f2 rfl
    rw [q0.1, q0.2, show Tryz.prog.cellsOf 3 = 1 from by kernel_rfl] at h0
    rw [q1.1, q1.2, show Tryz.prog.cellsOf 3 = 1 from by kernel_rfl] at h1
    rw [q2.1, q2.2, show Tryz.prog.cellsOf 9 = 1 from by kernel_rfl] at h2
    simp at h0 h1 h2
    obtain ⟨n0, e0, -, w0⟩ := DataW.trod_int Tryz.underlying3 h0
    obtain ⟨n1, e1, -, w1⟩ := DataW.trod_int Tryz.underlying3 h1
    obtain ⟨s2, e2, -, w2⟩ := DataW.trod_string Tryz.underlying9 h2
    simp at e0 e1 e2
    subst e0 e1 e2
    exact ⟨⟨n0, n1, s2⟩, rfl, bounds_i64 w0, bounds_i64 w1, w2⟩
end Go.Proofs.YthndkkjgjhgdnaaGreatDoor
namespace Go.Proofs.YthndkkjgjhgdnaaGreatDoor
open Go.ChangeShapes Go.WideShapes Go.ChangeAt Go.RowKit
set_option linter.unusedVariables false
set_option linter.unusedSimpArgs false
set_option maxRecDepth 100000

/-- A reader that is right. -/
def rrP (r : Rr) : Prop := (1 ≤ r.epoch ∧ r.epoch ≤ 31) ∧ (1 ≤ r.off ∧ r.off ≤ 61) ∧ r.out.length ≤ 120
theorem sitsNew {w w' : World} (b : Below w.heap.size w w') : Sits (OwReader w.heap.size w'.heap.size (.agg #[.int .i64 1, .int .i64 1, .slice none 0 0]) ⟨1, 1, []⟩) w.heap.size w'.heap.size w' := OwReader.sits ⟨_, rfl, ⟨OwnRw.nil _ _ _ _ (by omega), .inl rfl⟩⟩ (Nat.le_refl _)
end Go.Proofs.YthndkkjgjhgdnaaGreatDoor
namespace Go.Proofs.YthndkkjgjhgdnaaGreatDoor
open Go.ChangeShapes Go.WideShapes Go.ChangeAt Go.RowKit
set_option linter.unusedVariables false
set_option linter.unusedSimpArgs false
set_option maxRecDepth 100000

/-- An event that may be packed. -/
def evPk (e : Ev) : Prop := (1 ≤ e.kind ∧ e.kind ≤ 5) ∧ 0 ≤ e.pl ∧ e.data.size ≤ 40
/-- A reader that may be packed. -/
def rdPk (r : Rr) : Prop := (∀ e ∈ r.out, evPk e) ∧ rrP r
end Go.Proofs.YthndkkjgjhgdnaaGreatDoor
namespace Go.Proofs.YthndkkjgjhgdnaaGreatDoor
open Go.ChangeShapes Go.WideShapes Go.ChangeAt Go.RowKit
set_option linter.unusedVariables false
set_option linter.unusedSimpArgs false
set_option maxRecDepth 100000

/-- The bytes of an event, and of a reader. -/
def evB (e : Ev) : List UInt8 := numB e.kind.toNat ++ numB e.pl.toNat ++ textB e.data.data.toList
def rdB (m : Rr) : List UInt8 := numB m.epoch.toNat ++ numB m.off.toNat ++ numB m.out.length ++ m.out.flatMap evB
open Classical in
/-- ReaderPack. -/
noncomputable def rdM (m : Rr) : List UInt8 × Bool := if rdPk m then (rdB m, true) else ([], false)
theorem rdM_yes {m : Rr} (h : rdPk m) : rdM m = (rdB m, true) := if_pos h
theorem rdM_no {m : Rr} (h : ¬ rdPk m) : rdM m = ([], false) := if_neg h
theorem evB_len {e : Ev} (h : evPk e) : (evB e).length ≤ 67 := by
  have h1 := numB_len e.kind.toNat
  have h2 := numB_len e.pl.toNat
  have h3 := numB_len e.data.data.toList.length
  have h4 : e.data.data.toList.length = e.data.size := by rw [← Lib.size_eq]
  have h5 := h.2.2
  unfold evB textB
  simp only [List.length_append]
  omega
theorem evsB_len (es : List Ev) (h : ∀ e ∈ es, evPk e) : (es.flatMap evB).length ≤ 67 * es.length := by
  induction es with
  | nil => simp
  | cons e es ih =>
    have h1 := evB_len (h e (by simp))
    have h2 := ih fun x hx => h x (by simp [hx])
    rw [List.flatMap_cons, List.length_append, List.length_cons]
    omega
theorem evsB_take (es : List Ev) (k : Nat) (h : k < es.length) : (es.take (k + 1)).flatMap evB = (es.take k).flatMap evB ++ evB es[k] := by
  rw [List.take_succ_eq_append_getElem h, List.flatMap_append, List.flatMap_cons, List.flatMap_nil, List.append_nil]
/-- A row of bytes is not a block whose first cell is an int. -/
theorem own_apart17 {w : World} {B b n : Nat} {v : Value} {bs : List UInt8} {x : Int} (h : w.ownsRow B 5 1 v n (bcells bs)) (hn : 0 < bs.length) (hc : w.cell? ⟨b, 0, none⟩ = some (.int .i64 x)) : v.ownBlock ≠ some b := by
  have e : n = bs.length := by have := h.1; simp [bcells] at this; omega
  obtain ⟨g, cap, rfl⟩ := own_some h (by omega)
  intro e2
  have e3 : g = b := by simpa [Value.ownBlock] using e2
  subst e3
  have h1 := h.cells rfl 0 (.int .u8 (bs[0].toNat : Int)) (by simp only [bcells, List.getElem?_map, List.getElem?_eq_getElem hn, Option.map_some])
  have h2 : (⟨g, 0, none⟩ : Addr).add 0 = ⟨g, 0, none⟩ := rfl
  rw [h2, hc] at h1
  simp at h1
end Go.Proofs.YthndkkjgjhgdnaaGreatDoor
namespace Go.Proofs.YthndkkjgjhgdnaaGreatDoor
open Go.ChangeShapes Go.WideShapes Go.ChangeAt Go.RowKit

theorem rdN_num (pre post : List UInt8) (n : Nat) (hn : n ≤ 9223372036854775807) : rdN (pre ++ (numB n ++ post)) pre.length true = ((n : Int), pre.length + (numB n).length, true) := by
  apply rdN_some
  rw [getZ_of, List.drop_left]
  exact getB_num n post hn
theorem numsB_cons (x : Int) (xs : List Int) : numsB (x :: xs) = numB x.toNat ++ numsB xs := by simp [numsB]
theorem rdK_nums (post : List UInt8) (xs : List Int) (h : natI xs) : ∀ pre : List UInt8, rdK (pre ++ (numsB xs ++ post)) xs.length pre.length true = (xs, pre.length + (numsB xs).length, true) := by
  induction xs with
  | nil => intro pre; simp [rdK, numsB]
  | cons x xs ih =>
    intro pre
    obtain ⟨h0, h1⟩ := h x (by simp)
    obtain ⟨n, rfl⟩ := Int.eq_ofNat_of_zero_le h0
    have e1 : pre ++ (numsB ((n : Int) :: xs) ++ post) = pre ++ (numB n ++ (numsB xs ++ post)) := by rw [numsB_cons, Int.toNat_natCast, List.append_assoc]
    have e2 : pre ++ (numB n ++ (numsB xs ++ post)) = (pre ++ numB n) ++ (numsB xs ++ post) := by rw [List.append_assoc]
    have e3 := rdN_num pre (numsB xs ++ post) n (by omega)
    rw [e1, List.length_cons, rdK_succ, e3]
    simp only
    have := ih (fun y hy => h y (by simp [hy])) (pre ++ numB n)
    rw [e2, ← List.length_append, this, numsB_cons, Int.toNat_natCast]
    simp only [List.length_append, Nat.add_assoc]
theorem rdL_list (pre post : List UInt8) (xs : List Int) (h : natI xs) (hl : xs.length ≤ 9223372036854775807) : rdL (pre ++ (lstB xs ++ post)) pre.length true = (xs, pre.length + (lstB xs).length, true) := by
  have e1 : pre ++ (lstB xs ++ post) = pre ++ (numB xs.length ++ (numsB xs ++ post)) := by simp [lstB]
  have e2 : pre ++ (numB xs.length ++ (numsB xs ++ post)) = (pre ++ numB xs.length) ++ (numsB xs ++ post) := by simp
  unfold rdL
  rw [e1, rdN_num pre (numsB xs ++ post) xs.length hl]
  simp only [Int.toNat_natCast]
  rw [e2, ← List.length_append, rdK_nums post xs h]
  simp [lstB, Nat.add_assoc]
theorem natI_of_cfg {ds : List Int} {cop : Int} (h : cfgP ds cop) : natI ds := fun x hx => by
  obtain ⟨i, hi, rfl⟩ := List.getElem_of_mem hx
  have := h.2.2 i hi
  omega
/-- What is packed is read as it was. -/
theorem cfgR_pack {ds : List Int} {cop : Int} (h : cfgP ds cop) : cfgR (cfgB ds cop) = (ds, cop, true) := by
  have hd := natI_of_cfg h
  obtain ⟨⟨p1, p2⟩, ⟨p3, p4⟩, p5⟩ := h
  obtain ⟨n, rfl⟩ := Int.eq_ofNat_of_zero_le (show 0 ≤ cop by omega)
  have e1 : cfgB ds (n : Int) = [] ++ (lstB ds ++ numB n) := by simp [cfgB]
  have e2 : cfgB ds (n : Int) = lstB ds ++ (numB n ++ []) := by simp [cfgB]
  have a1 : rdL (cfgB ds (n : Int)) 0 true = (ds, (lstB ds).length, true) := by
    have := rdL_list [] (numB n) ds hd (by omega)
    rw [← e1] at this
    simpa using this
  have a2 : rdN (cfgB ds (n : Int)) (lstB ds).length true = ((n : Int), (lstB ds).length + (numB n).length, true) := by
    have := rdN_num (lstB ds) [] n (by omega)
    rwa [← e2] at this
  have a3 : endB (cfgB ds (n : Int)) ((lstB ds).length + (numB n).length) true = true := by
    simp [endB, cfgB]
  have := cfgR_yes (cfgB ds (n : Int)) (by
    rw [a1]
    simp only
    rw [a2]
    exact ⟨a3, ⟨p1, p2⟩, ⟨p3, p4⟩, p5⟩)
  rw [this, a1]
  simp only
  rw [a2]
theorem rdN_inv {bs : List UInt8} {q q' : Nat} {x : Int} {ok : Bool} (h : rdN bs q ok = (x, q', true)) : ok = true ∧ 0 ≤ x ∧ x ≤ 9223372036854775807 ∧ ∃ r, bs.drop q = numB x.toNat ++ r ∧ q' = q + (numB x.toNat).length := by
  cases ok
  · simp [rdN_off] at h
  cases hz : getZ bs (q : Int) with
  | none => rw [rdN_none true hz] at h; simp at h
  | some p =>
    obtain ⟨n, k⟩ := p
    rw [rdN_some hz] at h
    simp only [Prod.mk.injEq, and_true] at h
    obtain ⟨rfl, rfl⟩ := h
    have hb := getZ_bd hz
    rw [getZ_of] at hz
    obtain ⟨r, h1, h2⟩ := getB_inv hz
    exact ⟨rfl, by omega, by omega, r, by rw [Int.toNat_natCast]; exact h1, by rw [Int.toNat_natCast, h2]⟩
theorem rdK_inv {bs : List UInt8} : ∀ (n q : Nat) (ok : Bool) (xs : List Int) (q' : Nat), rdK bs n q ok = (xs, q', true) → ok = true ∧ xs.length = n ∧ natI xs ∧ ∃ r, bs.drop q = numsB xs ++ r ∧ q' = q + (numsB xs).length
  | 0, q, ok, xs, q', h => by
    rw [rdK_zero] at h
    simp only [Prod.mk.injEq] at h
    obtain ⟨rfl, rfl, rfl⟩ := h
    exact ⟨rfl, rfl, fun x hx => by simp at hx, bs.drop q, by simp [numsB], by simp [numsB]⟩
  | n + 1, q, false, xs, q', h => by rw [rdK_off] at h; simp at h
  | n + 1, q, true, xs, q', h => by
    rw [rdK_succ] at h
    cases hR : rdN bs q true with
    | mk x R =>
      obtain ⟨p, ok⟩ := R
      rw [hR] at h
      simp only at h
      cases hK : rdK bs n p ok with
      | mk ys S =>
        rw [hK] at h
        simp only [Prod.mk.injEq] at h
        obtain ⟨rfl, rfl⟩ := h
        obtain ⟨rfl, h2, h3, r, h4, h5⟩ := rdK_inv n p ok ys q' hK
        obtain ⟨-, g0, g1, r2, g2, g3⟩ := rdN_inv hR
        have hd : bs.drop p = r2 := by rw [g3, ← List.drop_drop, g2, List.drop_left]
        refine ⟨rfl, by simp [h2], fun y hy => ?_, r, ?_, ?_⟩
        · rcases List.mem_cons.1 hy with rfl | hy
          · exact ⟨g0, g1⟩
          · exact h3 y hy
        · rw [g2, ← hd, h4, numsB_cons, List.append_assoc]
        · rw [h5, g3, numsB_cons, List.length_append]; omega
theorem rdL_inv {bs : List UInt8} {q q' : Nat} {ok : Bool} {xs : List Int} (h : rdL bs q ok = (xs, q', true)) : ok = true ∧ natI xs ∧ ∃ r, bs.drop q = lstB xs ++ r ∧ q' = q + (lstB xs).length := by
  unfold rdL at h
  cases hR : rdN bs q ok with
  | mk x R =>
    obtain ⟨p, ok1⟩ := R
    rw [hR] at h
    simp only at h
    obtain ⟨rfl, h2, h3, r, h4, h5⟩ := rdK_inv _ _ _ _ _ h
    obtain ⟨rfl, g0, g1, r2, g2, g3⟩ := rdN_inv hR
    have hd : bs.drop p = r2 := by rw [g3, ← List.drop_drop, g2, List.drop_left]
    refine ⟨rfl, h3, r, ?_, ?_⟩
    · rw [g2, ← hd, h4]
      simp [lstB, h2]
    · rw [h5, g3]
      simp [lstB, h2]
      omega
/-- What is read packs to its bytes. -/
theorem cfgR_inv {bs : List UInt8} {ds : List Int} {cop : Int} (h : cfgR bs = (ds, cop, true)) : cfgP ds cop ∧ cfgB ds cop = bs := by
  by_cases hc : endB bs (rdN bs (rdL bs 0 true).2.1 (rdL bs 0 true).2.2).2.1 (rdN bs (rdL bs 0 true).2.1 (rdL bs 0 true).2.2).2.2 = true ∧ cfgP (rdL bs 0 true).1 (rdN bs (rdL bs 0 true).2.1 (rdL bs 0 true).2.2).1
  · rw [cfgR_yes bs hc] at h
    cases hL : rdL bs 0 true with
    | mk xs S =>
      obtain ⟨q1, ok1⟩ := S
      rw [hL] at h hc
      simp only at h hc
      cases hR : rdN bs q1 ok1 with
      | mk x R =>
        obtain ⟨q2, ok2⟩ := R
        rw [hR] at h hc
        simp only [Prod.mk.injEq, and_true] at h hc
        obtain ⟨rfl, rfl⟩ := h
        obtain ⟨he, hp⟩ := hc
        have he2 : ok2 = true ∧ q2 = bs.length := by simpa [endB] using he
        obtain ⟨rfl, rfl⟩ := he2
        obtain ⟨rfl, g0, g1, r2, g2, g3⟩ := rdN_inv hR
        obtain ⟨-, k0, r1, k1, k2⟩ := rdL_inv hL
        have hd : bs.drop q1 = r1 := by rw [k2, Nat.zero_add] at *; rw [List.drop_zero] at k1; rw [k1, List.drop_left]
        rw [List.drop_zero] at k1
        have hr2 : r2 = [] := by
          have := congrArg List.length g2
          rw [List.length_drop, List.length_append] at this
          exact List.eq_nil_of_length_eq_zero (by omega)
        refine ⟨hp, ?_⟩
        unfold cfgB
        conv => rhs; rw [k1, ← hd, g2, hr2, List.append_nil]
  · rw [cfgR_no bs hc] at h
    simp at h
end Go.Proofs.YthndkkjgjhgdnaaGreatDoor
namespace Go.Proofs.YthndkkjgjhgdnaaGreatDoor
open Go.ChangeShapes Go.WideShapes Go.ChangeAt Go.RowKit

theorem gtextZ_nat {bs : List UInt8} {q : Nat} (h : q < bs.length) : gtextZ bs (q : Int) = gtextB bs q := by
  unfold gtextZ
  rw [if_neg (by omega), Int.toNat_natCast]
theorem rdT_text (pre post t : List UInt8) (ht : t.length ≤ 9223372036854775807) : rdT (pre ++ (textB t ++ post)) pre.length true = (t, pre.length + (textB t).length, true) := by
  have hp := numB_pos t.length
  apply rdT_some
  rw [gtextZ_nat (by simp only [textB, List.length_append]; omega)]
  unfold gtextB
  have e1 : (pre ++ (textB t ++ post)).drop pre.length = numB t.length ++ (t ++ post) := by rw [List.drop_left]; simp [textB]
  have e2 : (pre ++ (textB t ++ post)).drop (pre.length + (numB t.length).length) = t ++ post := by rw [← List.drop_drop, e1, List.drop_left]
  rw [e1, getB_num _ _ ht]
  simp only
  rw [if_pos (by simp only [textB, List.length_append]; omega), e2, List.take_left]
  simp only [textB, List.length_append, Nat.add_assoc]
theorem rdT_inv {bs t : List UInt8} {q q' : Nat} {ok : Bool} (h : rdT bs q ok = (t, q', true)) : ok = true ∧ t.length ≤ 9223372036854775807 ∧ ∃ r, bs.drop q = textB t ++ r ∧ q' = q + (textB t).length := by
  cases ok
  · simp [rdT_off] at h
  cases hz : gtextZ bs (q : Int) with
  | none => rw [rdT_none true hz] at h; simp at h
  | some p =>
    obtain ⟨x, k⟩ := p
    rw [rdT_some hz] at h
    simp only [Prod.mk.injEq, and_true] at h
    obtain ⟨rfl, rfl⟩ := h
    have hq : q < bs.length := by
      rcases Nat.lt_or_ge q bs.length with h' | h'
      · exact h'
      · unfold gtextZ at hz
        rw [if_pos (by omega)] at hz
        cases hz
    rw [gtextZ_nat hq] at hz
    unfold gtextB at hz
    split at hz
    · cases hz
    · rename_i n j hg
      split at hz
      · rename_i hle
        simp only [Option.some.injEq, Prod.mk.injEq] at hz
        obtain ⟨rfl, rfl⟩ := hz
        have hbd := getB_bd hg
        obtain ⟨r, h1, h2⟩ := getB_inv hg
        have h3 : bs.drop (q + j) = r := by rw [h2, ← List.drop_drop, h1, List.drop_left]
        have h4 : (r.take n).length = n := by
          rw [List.length_take, ← h3, List.length_drop]
          omega
        rw [h3]
        refine ⟨rfl, by rw [h4]; omega, r.drop n, ?_, ?_⟩
        · rw [h1, textB, h4, List.append_assoc, List.take_append_drop]
        · rw [textB, h4, List.length_append, h4, h2]; omega
      · cases hz
end Go.Proofs.YthndkkjgjhgdnaaGreatDoor
namespace Go.Proofs.YthndkkjgjhgdnaaGreatDoor
open Go.ChangeShapes Go.WideShapes Go.ChangeAt Go.RowKit
set_option linter.unusedVariables false
set_option linter.unusedSimpArgs false

/-- From q up to p these bytes stand. -/
def On (bs : List UInt8) (q : Nat) (B : List UInt8) (p : Nat) : Prop := ∃ r, bs.drop q = B ++ r ∧ p = q + B.length
theorem On.all (bs : List UInt8) : On bs 0 bs bs.length := ⟨[], by simp, by simp⟩
theorem On.whole {bs B : List UInt8} (h : On bs 0 B bs.length) : B = bs := by
  obtain ⟨r, h1, h2⟩ := h
  rw [List.drop_zero] at h1
  have hr : r = [] := by
    have := congrArg List.length h1
    rw [List.length_append] at this
    exact List.eq_nil_of_length_eq_zero (by omega)
  rw [h1, hr, List.append_nil]
theorem On.trans {bs B C : List UInt8} {q p p' : Nat} (h : On bs q B p) (k : On bs p C p') : On bs q (B ++ C) p' := by
  obtain ⟨r, h1, rfl⟩ := h
  obtain ⟨s, k1, rfl⟩ := k
  rw [← List.drop_drop, h1, List.drop_left] at k1
  exact ⟨s, by rw [h1, k1, List.append_assoc], by simp [Nat.add_assoc]⟩
theorem On.split {bs B C : List UInt8} {q p : Nat} (h : On bs q (B ++ C) p) : On bs q B (q + B.length) ∧ On bs (q + B.length) C p := by
  obtain ⟨r, h1, h2⟩ := h
  refine ⟨⟨C ++ r, by rw [h1, List.append_assoc], rfl⟩, ⟨r, ?_, by rw [h2, List.length_append]; omega⟩⟩
  rw [← List.drop_drop, h1, List.append_assoc, List.drop_left]
theorem On.cut {bs B C : List UInt8} {q p : Nat} (h : On bs q (B ++ C) p) : ∃ p', On bs q B p' ∧ On bs p' C p := ⟨_, h.split.1, h.split.2⟩
theorem On.le {bs B : List UInt8} {q p : Nat} (h : On bs q B p) (hB : 0 < B.length) : p ≤ bs.length := by
  obtain ⟨r, h1, h2⟩ := h
  have := congrArg List.length h1
  rw [List.length_drop, List.length_append] at this
  omega
theorem On.refl (bs : List UInt8) (q : Nat) : On bs q [] q := ⟨bs.drop q, by simp, by simp⟩
theorem rdN_on {bs : List UInt8} {q p n : Nat} (h : On bs q (numB n) p) (hn : n ≤ 9223372036854775807) : rdN bs q true = ((n : Int), p, true) := by
  obtain ⟨r, h1, rfl⟩ := h
  apply rdN_some
  rw [getZ_of, h1]
  exact getB_num n r hn
theorem rdN_onI {bs : List UInt8} {q p : Nat} {x : Int} (h : On bs q (numB x.toNat) p) (h0 : 0 ≤ x) (hn : x ≤ 9223372036854775807) : rdN bs q true = (x, p, true) := by
  obtain ⟨n, rfl⟩ := Int.eq_ofNat_of_zero_le h0
  exact rdN_on h (by omega)
theorem rdN_off' {bs : List UInt8} {q p : Nat} {x : Int} {ok : Bool} (h : rdN bs q ok = (x, p, true)) : ok = true ∧ 0 ≤ x ∧ x ≤ 9223372036854775807 ∧ On bs q (numB x.toNat) p := by
  obtain ⟨h1, h2, h3, r, h4, h5⟩ := rdN_inv h
  exact ⟨h1, h2, h3, r, h4, h5⟩
theorem rdT_on {bs t : List UInt8} {q p : Nat} (h : On bs q (textB t) p) (ht : t.length ≤ 9223372036854775807) : rdT bs q true = (t, p, true) := by
  have hp : 0 < (textB t).length := by have := numB_pos t.length; simp only [textB, List.length_append]; omega
  have hl := h.le hp
  obtain ⟨r, h1, rfl⟩ := h
  have e : bs = bs.take q ++ (textB t ++ r) := by rw [← h1, List.take_append_drop]
  have hq : (bs.take q).length = q := by rw [List.length_take]; omega
  have := rdT_text (bs.take q) r t ht
  rw [← e, hq] at this
  exact this
theorem rdT_off' {bs t : List UInt8} {q p : Nat} {ok : Bool} (h : rdT bs q ok = (t, p, true)) : ok = true ∧ t.length ≤ 9223372036854775807 ∧ On bs q (textB t) p := by
  obtain ⟨h1, h2, r, h4, h5⟩ := rdT_inv h
  exact ⟨h1, h2, r, h4, h5⟩
theorem rdL_on {bs : List UInt8} {xs : List Int} {q p : Nat} (h : On bs q (lstB xs) p) (hx : natI xs) (hl : xs.length ≤ 9223372036854775807) : rdL bs q true = (xs, p, true) := by
  have hle := h.le (lstB_pos xs)
  obtain ⟨r, h1, rfl⟩ := h
  have e : bs = bs.take q ++ (lstB xs ++ r) := by rw [← h1, List.take_append_drop]
  have hpos := lstB_pos xs
  have hq : (bs.take q).length = q := by rw [List.length_take]; omega
  have := rdL_list (bs.take q) r xs hx hl
  rw [← e, hq] at this
  exact this
theorem rdL_off' {bs : List UInt8} {xs : List Int} {q p : Nat} {ok : Bool} (h : rdL bs q ok = (xs, p, true)) : ok = true ∧ natI xs ∧ On bs q (lstB xs) p := by
  obtain ⟨h1, h2, r, h4, h5⟩ := rdL_inv h
  exact ⟨h1, h2, r, h4, h5⟩
/-- A read that was right, whole. -/
theorem tri_eta {α : Type} {T : α × Nat × Bool} (h : T.2.2 = true) : T = (T.1, T.2.1, true) := Prod.ext rfl (Prod.ext rfl h)
theorem endB_true {bs : List UInt8} {q : Nat} {ok : Bool} (h : endB bs q ok = true) : ok = true ∧ q = bs.length := by simpa [endB] using h
theorem endB_end (bs : List UInt8) : endB bs bs.length true = true := by simp [endB]
end Go.Proofs.YthndkkjgjhgdnaaGreatDoor
