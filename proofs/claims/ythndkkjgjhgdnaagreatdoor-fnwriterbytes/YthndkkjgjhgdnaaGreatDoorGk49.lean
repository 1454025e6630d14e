/- Several texts in one: PkM, OpenW, PkQ, WrD, RmP, DrawP, BoxR. -/
import Derived.Test.YthndkkjgjhgdnaaGreatDoorGk80
import Derived.Test.YthndkkjgjhgdnaaGreatDoorGk61
import Derived.Deep.RegionHeld3
import Derived.Deep.DeepCutAuto
import Derived.Test.YthndkkjgjhgdnaaGreatDoorGk75
import Derived.Test.YthndkkjgjhgdnaaGreatDoorGk83
import Derived.Deep.Strs
import Derived.Test.YthndkkjgjhgdnaaGreatDoorGk72
import Derived.Test.YthndkkjgjhgdnaaGreatDoorWrC
import Derived.Test.YthndkkjgjhgdnaaGreatDoorGaA
import Derived.Lib.SliceRun
import Derived.Test.YthndkkjgjhgdnaaGreatDoorGk69
namespace Go.Proofs.YthndkkjgjhgdnaaGreatDoor
open Go.ChangeShapes Go.WideShapes Go.ChangeAt Go.RowKit
set_option linter.unusedVariables false
set_option linter.unusedSimpArgs false
set_option maxRecDepth 100000

/-- An event that is read by the cursor, and where it is then. -/
def rdE (bs : List UInt8) (q : Nat) (ok : Bool) : Ev × Nat × Bool :=
  (⟨(rdN bs q ok).1, (rdN bs (rdN bs q ok).2.1 (rdN bs q ok).2.2).1, ⟨(rdT bs (rdN bs (rdN bs q ok).2.1 (rdN bs q ok).2.2).2.1 (rdN bs (rdN bs q ok).2.1 (rdN bs q ok).2.2).2.2).1.toArray⟩⟩, (rdT bs (rdN bs (rdN bs q ok).2.1 (rdN bs q ok).2.2).2.1 (rdN bs (rdN bs q ok).2.1 (rdN bs q ok).2.2).2.2).2)
def rdEs (bs : List UInt8) : Nat → Nat → Bool → List Ev × Nat × Bool
  | 0, q, ok => ([], q, ok)
  | n + 1, q, false => ([], q, false)
  | n + 1, q, true => ((rdE bs q true).1 :: (rdEs bs n (rdE bs q true).2.1 (rdE bs q true).2.2).1, (rdEs bs n (rdE bs q true).2.1 (rdE bs q true).2.2).2)
theorem rdEs_off (bs : List UInt8) (n q : Nat) : rdEs bs n q false = ([], q, false) := by cases n <;> rfl
theorem rdEs_zero (bs : List UInt8) (q : Nat) (ok : Bool) : rdEs bs 0 q ok = ([], q, ok) := rfl
theorem rdEs_succ (bs : List UInt8) (n q : Nat) : rdEs bs (n + 1) q true = ((rdE bs q true).1 :: (rdEs bs n (rdE bs q true).2.1 (rdE bs q true).2.2).1, (rdEs bs n (rdE bs q true).2.1 (rdE bs q true).2.2).2) := rfl
theorem rdT_step {bs : List UInt8} {q : Nat} (ok : Bool) (hq : q ≤ bs.length) : q ≤ (rdT bs q ok).2.1 ∧ (rdT bs q ok).2.1 ≤ bs.length := by
  cases ok
  · exact ⟨Nat.le_refl _, hq⟩
  cases hz : gtextZ bs (q : Int) with
  | none => rw [rdT_none true hz]; exact ⟨Nat.le_refl _, hq⟩
  | some p =>
    obtain ⟨x, k⟩ := p
    rw [rdT_some hz]
    unfold gtextZ at hz
    split at hz
    · cases hz
    · unfold gtextB at hz
      split at hz
      · cases hz
      · split at hz
        · simp only [Option.some.injEq, Prod.mk.injEq, Int.toNat_natCast] at hz
          rename_i hle
          simp only [Int.toNat_natCast] at hle
          obtain ⟨-, rfl⟩ := hz
          simp only
          omega
        · cases hz
theorem rdN_mono {bs : List UInt8} {q : Nat} (ok : Bool) (hq : q ≤ bs.length) : q ≤ (rdN bs q ok).2.1 ∧ (rdN bs q ok).2.1 ≤ bs.length ∧ ((rdN bs q ok).2.2 = true → q + 1 ≤ (rdN bs q ok).2.1) := by
  cases ok
  · exact ⟨Nat.le_refl _, hq, fun h => by cases h⟩
  · exact (rdN_step hq).2
theorem rdN_ok {bs : List UInt8} {q : Nat} {ok : Bool} (h : (rdN bs q ok).2.2 = true) : ok = true := by
  cases ok
  · cases h
  · rfl
theorem rdT_ok {bs : List UInt8} {q : Nat} {ok : Bool} (h : (rdT bs q ok).2.2 = true) : ok = true := by
  cases ok
  · cases h
  · rfl
theorem rdE_step {bs : List UInt8} {q : Nat} (hq : q ≤ bs.length) : q ≤ (rdE bs q true).2.1 ∧ (rdE bs q true).2.1 ≤ bs.length ∧ ((rdE bs q true).2.2 = true → q + 1 ≤ (rdE bs q true).2.1) := by
  have h1 := rdN_mono (bs := bs) true hq
  have h2 := rdN_mono (bs := bs) (rdN bs q true).2.2 h1.2.1
  have h3 := rdT_step (bs := bs) (rdN bs (rdN bs q true).2.1 (rdN bs q true).2.2).2.2 h2.2.1
  refine ⟨by unfold rdE; simp only; omega, by unfold rdE; simp only; omega, fun h => ?_⟩
  have h4 := h1.2.2 (rdN_ok (rdT_ok h |> fun h => h))
  unfold rdE
  simp only
  omega
end Go.Proofs.YthndkkjgjhgdnaaGreatDoor
namespace Go.Proofs.YthndkkjgjhgdnaaGreatDoor
open Go.ChangeShapes Go.WideShapes Go.ChangeAt Go.RowKit
set_option linter.unusedVariables false
set_option maxRecDepth 100000
variable {H : Type} {enc : TypeId × Value → H} {W : World} {r : Reach} {b0 base : Nat} {held : Bool} {v : Value} {d : DataW H} {p : List MemPlace}

/-- A word of ints. -/
def fitWd (e : Wd) : Prop := allInt e.acks ∧ e.data.size ≤ 9223372036854775807
def okWriter (m : Wt) : Prop := (∀ e ∈ m.words, fitWd e) ∧ -9223372036854775808 ≤ m.epoch ∧ m.epoch ≤ 9223372036854775807
def IsWriter (v : Value) (m : Wt) (w : World) : Prop := RdWriter v m w ∧ okWriter m
theorem txtW_of {m : Wt} (h : okWriter m) : txtW m.words := fun e he => (h.1 e he).2
theorem word_cells {T : TypeId} {n : Nat} {cs : List Value} {x : DataW H × List MemPlace} {f0 f1 f2 : Field} (hu : Tryz.prog.underlying T = some (.struct #[f0, f1, f2])) (hC : Tryz.prog.cellsOf T = 3)
    (q0 : f0.type = 9 ∧ f0.offset = 0) (q1 : f1.type = 24 ∧ f1.offset = 1) (q2 : f2.type = 4 ∧ f2.offset = 2)
    (h : DataW.trod enc Tryz.prog W base (fun _ => true) held n T cs = some x) : ∃ e : Nst Wd, cs = wdCl e ∧ Ns W (Sv Wd.acks e) e.m.acks ∧ fitWd e.m := by
  obtain ⟨y0, y1, y2, n', -, hl, h0, h1, h2⟩ := Go.Deep.trod_struct3 hu h
  rw [hC] at hl
  match cs, hl with
  | [c0, c1, c2], _ =>
    rw [q0.1, q0.2, show Tryz.prog.cellsOf 9 = 1 from by kernel_rfl] at h0
    rw [q1.1, q1.2, show Tryz.prog.cellsOf 24 = 1 from by kernel_rfl] at h1
    rw [q2.1, q2.2, show Tryz.prog.cellsOf 4 = 1 from by kernel_rfl] at h2
    obtain ⟨s0, e0, -, w0⟩ := DataW.trod_string Tryz.underlying9 h0
    obtain ⟨sv, bs, e1, k1, k2⟩ := ints_read h1
    obtain ⟨b2, e2, -⟩ := DataW.trod_bool Tryz.underlying4 h2
    simp at e0 e1 e2
    subst e0 e1 e2
    have k1' := k1
    obtain ⟨-, a, c, rfl, -, -⟩ := k1'
    exact ⟨⟨a, c, s0, bs, b2⟩, rfl, k1, k2, w0⟩
end Go.Proofs.YthndkkjgjhgdnaaGreatDoor
namespace Go.Proofs.YthndkkjgjhgdnaaGreatDoor
open Go.ChangeShapes Go.WideShapes Go.ChangeAt Go.RowKit
set_option linter.unusedVariables false
set_option linter.unusedSimpArgs false

theorem rdT_go {bs : List UInt8} {q : Nat} (ok : Bool) (hq : q ≤ bs.length) : q ≤ (rdT bs q ok).2.1 ∧ (rdT bs q ok).2.1 ≤ bs.length ∧ (rdT bs q ok).1.length + q ≤ (rdT bs q ok).2.1 := by
  have h := rdT_step (bs := bs) ok hq
  refine ⟨h.1, h.2, ?_⟩
  cases ok
  · simp [rdT]
  cases hz : gtextZ bs (q : Int) with
  | none => rw [rdT_none true hz]; simp
  | some p =>
    obtain ⟨x, k⟩ := p
    rw [rdT_some hz]
    unfold gtextZ at hz
    split at hz
    · cases hz
    · unfold gtextB at hz
      split at hz
      · cases hz
      · split at hz
        · simp only [Option.some.injEq, Prod.mk.injEq, Int.toNat_natCast] at hz
          obtain ⟨rfl, rfl⟩ := hz
          simp only [List.length_take, List.length_drop]
          omega
        · cases hz
theorem rdK_len (bs : List UInt8) (n q : Nat) (ok : Bool) (hq : q ≤ bs.length) : (rdK bs n q ok).1.length + q ≤ bs.length + 1 := by
  induction n generalizing q ok with
  | zero => simp [rdK]; omega
  | succ n ih =>
    cases ok
    · simp [rdK]; omega
    · rw [rdK_succ]
      have hs := rdN_step hq
      have := ih (rdN bs q true).2.1 (rdN bs q true).2.2 hs.2.2.1
      simp only [List.length_cons]
      cases hz : (rdN bs q true).2.2
      · rw [rdK_off]
        simp
        omega
      · have h1 := hs.2.2.2 hz
        rw [hz] at this
        omega
theorem rdL_len (bs : List UInt8) (q : Nat) (ok : Bool) (hq : q ≤ bs.length) : (rdL bs q ok).1.length ≤ bs.length + 1 := by
  have h1 := rdN_go (bs := bs) ok hq
  have := rdK_len bs (rdN bs q ok).1.toNat (rdN bs q ok).2.1 (rdN bs q ok).2.2 h1.2.1
  unfold rdL
  omega
open Classical in
/-- A word that is read by the cursor, and where it is then. -/
noncomputable def rdWd (ds : List Int) (cop : Int) (bs : List UInt8) (q : Nat) (ok : Bool) : Wd × Nat × Bool :=
  (⟨⟨(rdT bs q ok).1.toArray⟩, (rdL bs (rdT bs q ok).2.1 (rdT bs q ok).2.2).1, decide (holdsP ds cop (rdL bs (rdT bs q ok).2.1 (rdT bs q ok).2.2).1)⟩, (rdL bs (rdT bs q ok).2.1 (rdT bs q ok).2.2).2)
open Classical in
theorem rdWd_eq (ds : List Int) (cop : Int) (bs : List UInt8) (q : Nat) (ok : Bool) : ∃ B : Bool, (holdsP ds cop (rdL bs (rdT bs q ok).2.1 (rdT bs q ok).2.2).1 → B = true) ∧ (¬ holdsP ds cop (rdL bs (rdT bs q ok).2.1 (rdT bs q ok).2.2).1 → B = false) ∧ rdWd ds cop bs q ok = (⟨⟨(rdT bs q ok).1.toArray⟩, (rdL bs (rdT bs q ok).2.1 (rdT bs q ok).2.2).1, B⟩, (rdL bs (rdT bs q ok).2.1 (rdT bs q ok).2.2).2) := ⟨decide (holdsP ds cop (rdL bs (rdT bs q ok).2.1 (rdT bs q ok).2.2).1), fun h => decide_eq_true h, fun h => decide_eq_false h, rfl⟩
noncomputable def rdWds (ds : List Int) (cop : Int) (bs : List UInt8) : Nat → Nat → Bool → List Wd × Nat × Bool
  | 0, q, ok => ([], q, ok)
  | n + 1, q, false => ([], q, false)
  | n + 1, q, true => ((rdWd ds cop bs q true).1 :: (rdWds ds cop bs n (rdWd ds cop bs q true).2.1 (rdWd ds cop bs q true).2.2).1, (rdWds ds cop bs n (rdWd ds cop bs q true).2.1 (rdWd ds cop bs q true).2.2).2)
theorem rdWds_off (ds : List Int) (cop : Int) (bs : List UInt8) (n q : Nat) : rdWds ds cop bs n q false = ([], q, false) := by cases n <;> rfl
theorem rdWds_zero (ds : List Int) (cop : Int) (bs : List UInt8) (q : Nat) (ok : Bool) : rdWds ds cop bs 0 q ok = ([], q, ok) := rfl
theorem rdWds_succ (ds : List Int) (cop : Int) (bs : List UInt8) (n q : Nat) : rdWds ds cop bs (n + 1) q true = ((rdWd ds cop bs q true).1 :: (rdWds ds cop bs n (rdWd ds cop bs q true).2.1 (rdWd ds cop bs q true).2.2).1, (rdWds ds cop bs n (rdWd ds cop bs q true).2.1 (rdWd ds cop bs q true).2.2).2) := rfl
theorem rdWds_was {ds : List Int} {cop : Int} {bs : List UInt8} {n q : Nat} {ok : Bool} (h : (rdWds ds cop bs n q ok).2.2 = true) : ok = true := by
  cases ok
  · rw [rdWds_off] at h; cases h
  · rfl
theorem rdWd_go (ds : List Int) (cop : Int) (bs : List UInt8) (q : Nat) (ok : Bool) (hq : q ≤ bs.length) : q ≤ (rdWd ds cop bs q ok).2.1 ∧ (rdWd ds cop bs q ok).2.1 ≤ bs.length ∧ ((rdWd ds cop bs q ok).2.2 = true → (rdWd ds cop bs q ok).1.acks.length + (rdWd ds cop bs q ok).1.data.size + 1 + q ≤ (rdWd ds cop bs q ok).2.1) ∧ allInt (rdWd ds cop bs q ok).1.acks ∧ (rdWd ds cop bs q ok).1.data.size ≤ bs.length := by
  obtain ⟨a1, a2, a3⟩ := rdT_go (bs := bs) ok hq
  obtain ⟨b1, b2, b3, b4⟩ := rdL_go bs (rdT bs q ok).2.1 (rdT bs q ok).2.2 a2
  have hs : (rdWd ds cop bs q ok).1.data.size = (rdT bs q ok).1.length := by unfold rdWd; simp [ByteArray.size]
  refine ⟨by unfold rdWd; simp only; omega, by unfold rdWd; simp only; omega, fun h => ?_, ?_, by omega⟩
  · have h3 := b3 h
    rw [hs]
    unfold rdWd
    simp only
    omega
  · unfold rdWd
    exact fun x hx => by have := b4 x hx; omega
theorem rdWds_go (ds : List Int) (cop : Int) (bs : List UInt8) (n q : Nat) (ok : Bool) (hq : q ≤ bs.length) : (rdWds ds cop bs n q ok).2.1 ≤ bs.length ∧ q ≤ (rdWds ds cop bs n q ok).2.1 ∧ ((rdWds ds cop bs n q ok).2.2 = true → (rdWds ds cop bs n q ok).1.length + sumX (rdWds ds cop bs n q ok).1 + sumW (rdWds ds cop bs n q ok).1 + q ≤ (rdWds ds cop bs n q ok).2.1) ∧ ∀ e ∈ (rdWds ds cop bs n q ok).1, allInt e.acks ∧ e.data.size ≤ bs.length := by
  induction n generalizing q ok with
  | zero => exact ⟨hq, Nat.le_refl _, fun _ => by simp [rdWds, sumX, sumW], fun e he => by simp [rdWds] at he⟩
  | succ n ih =>
    cases ok
    · exact ⟨hq, Nat.le_refl _, (fun h => by cases h), fun e he => by simp [rdWds] at he⟩
    · rw [rdWds_succ]
      obtain ⟨a1, a2, a3, a4, a5⟩ := rdWd_go ds cop bs q true hq
      obtain ⟨i0, i1, i2, i3⟩ := ih (rdWd ds cop bs q true).2.1 (rdWd ds cop bs q true).2.2 a2
      refine ⟨i0, Nat.le_trans a1 i1, fun h => ?_, fun e he => ?_⟩
      · have h1 := a3 (rdWds_was h)
        have h2 := i2 h
        have h4 : sumW ((rdWd ds cop bs q true).1 :: (rdWds ds cop bs n (rdWd ds cop bs q true).2.1 (rdWd ds cop bs q true).2.2).1) = (rdWd ds cop bs q true).1.acks.length + sumW (rdWds ds cop bs n (rdWd ds cop bs q true).2.1 (rdWd ds cop bs q true).2.2).1 := by simp [sumW]
        have h5 : sumX ((rdWd ds cop bs q true).1 :: (rdWds ds cop bs n (rdWd ds cop bs q true).2.1 (rdWd ds cop bs q true).2.2).1) = (rdWd ds cop bs q true).1.data.size + sumX (rdWds ds cop bs n (rdWd ds cop bs q true).2.1 (rdWd ds cop bs q true).2.2).1 := by simp [sumX]
        rw [h4, h5, List.length_cons]
        simp only at h2 ⊢
        omega
      · simp only [List.mem_cons] at he
        rcases he with rfl | he
        · exact ⟨a4, a5⟩
        · exact i3 e he
/-- What is read of a writer, where that ends, and whether all was right. -/
def wtRa (bs : List UInt8) : Int × Nat × Bool := rdN bs 0 true
def wtRc (bs : List UInt8) : Int × Nat × Bool := rdN bs (wtRa bs).2.1 (wtRa bs).2.2
noncomputable def wtRd (ds : List Int) (cop : Int) (bs : List UInt8) : List Wd × Nat × Bool := rdWds ds cop bs (wtRc bs).1.toNat (wtRc bs).2.1 (wtRc bs).2.2
noncomputable def wtRm (ds : List Int) (cop : Int) (bs : List UInt8) : Wt := ⟨(wtRa bs).1, (wtRd ds cop bs).1⟩
open Classical in
/-- WriterRead. -/
noncomputable def wtR (ds : List Int) (cop : Int) (bs : List UInt8) : Wt × Bool := if endB bs (wtRd ds cop bs).2.1 (wtRd ds cop bs).2.2 = true ∧ wrP ds cop (wtRm ds cop bs) then (wtRm ds cop bs, true) else (⟨0, []⟩, false)
theorem wtR_yes (ds : List Int) (cop : Int) (bs : List UInt8) (h : endB bs (wtRd ds cop bs).2.1 (wtRd ds cop bs).2.2 = true ∧ wrP ds cop (wtRm ds cop bs)) : wtR ds cop bs = (wtRm ds cop bs, true) := if_pos h
theorem wtR_no (ds : List Int) (cop : Int) (bs : List UInt8) (h : ¬ (endB bs (wtRd ds cop bs).2.1 (wtRd ds cop bs).2.2 = true ∧ wrP ds cop (wtRm ds cop bs))) : wtR ds cop bs = (⟨0, []⟩, false) := if_neg h
theorem wtRa_le (bs : List UInt8) : (wtRa bs).2.1 ≤ bs.length := (rdN_go true (Nat.zero_le _)).2.1
theorem wtRc_le (bs : List UInt8) : (wtRc bs).2.1 ≤ bs.length := (rdN_go _ (wtRa_le bs)).2.1
theorem wtRd_le (ds : List Int) (cop : Int) (bs : List UInt8) : (wtRd ds cop bs).2.1 ≤ bs.length := (rdWds_go ds cop bs _ _ _ (wtRc_le bs)).1
theorem wtRm_ok (ds : List Int) (cop : Int) (bs : List UInt8) (hl : bs.length ≤ 1048576) : okWriter (wtRm ds cop bs) := ⟨fun e he => by
  have := (rdWds_go ds cop bs _ _ _ (wtRc_le bs)).2.2.2 e he
  exact ⟨this.1, by omega⟩, by
  have := rdN_bd (bs := bs) true (Nat.zero_le bs.length)
  exact ⟨by unfold wtRm wtRa; simp only; omega, by unfold wtRm wtRa; simp only; omega⟩⟩
theorem wtRm_siz (ds : List Int) (cop : Int) (bs : List UInt8) (h : (wtRd ds cop bs).2.2 = true) : sizWriter (wtRm ds cop bs) ≤ bs.length := by
  have h1 := (rdWds_go ds cop bs (wtRc bs).1.toNat (wtRc bs).2.1 (wtRc bs).2.2 (wtRc_le bs)).2.2.1 h
  have h2 := wtRd_le ds cop bs
  unfold wtRd at h2
  unfold sizWriter sizWordS wtRm wtRd
  simp only
  omega
end Go.Proofs.YthndkkjgjhgdnaaGreatDoor
namespace Go.Proofs.YthndkkjgjhgdnaaGreatDoor
open Go.ChangeShapes Go.WideShapes Go.ChangeAt Go.RowKit
set_option linter.unusedVariables false
set_option linter.unusedSimpArgs false
set_option maxRecDepth 100000

/-- The cell of an open word: where the word lies. -/
def opCl (p : Addr) : List Value := [.pointer (some p)]
theorem elemO : Elem (α := Addr) 202 206 (.agg #[.pointer none]) 1 8 opCl where
  under := Tryz.underlying206
  info := by kernel_rfl
  zcells := by kernel_rfl
  pos := by decide
  len := fun _ => rfl
  one := fun a u hu => by
    simp only [opCl, List.mem_cons, List.not_mem_nil, or_false] at hu
    subst hu
    rfl
theorem rwO_one (w : World) (p : Addr) (T : TypeId) (c : Nat) (hc : 1 ≤ c ∧ c ≤ 9223372036854775807) : Rw 1 opCl (w.alloc (.cells #[.pointer (some p)] T)) (.slice (some ⟨w.heap.size, 0, none⟩) 1 c) [p] := by
  refine ⟨by simp, _, _, rfl, by simpa using hc, .inr ⟨w.heap.size, 0, rfl, fun i hi j u hu => ?_⟩⟩
  obtain rfl : i = 0 := by simp at hi; omega
  simp only [List.getElem_cons_zero, opCl] at hu
  simpa using hu
/-- Which of the first k words are open. -/
def opI (ms : List Wd) (k : Nat) : List Nat := (List.range k).filter fun i => !(ms.getD i ⟨⟨#[]⟩, [], true⟩).done
theorem opI_step (ms : List Wd) (k : Nat) (h : k < ms.length) : opI ms (k + 1) = opI ms k ++ (if ms[k].done then [] else [k]) := by
  unfold opI
  rw [List.range_succ, List.filter_append]
  congr 1
  rw [List.filter_cons, getD_lt _ h]
  cases ms[k].done <;> simp
theorem opI_len (ms : List Wd) : ∀ k, k ≤ ms.length → (opI ms k).length = openN (ms.take k)
  | 0, _ => by simp [opI, openN]
  | k + 1, h => by
    rw [opI_step ms k (by omega), openN_step ms k (by omega), List.length_append, opI_len ms k (by omega)]
    cases ms[k].done <;> simp
theorem opI_le (ms : List Wd) (k : Nat) : (opI ms k).length ≤ k := by
  unfold opI
  have := List.length_filter_le (fun i => !(ms.getD i ⟨⟨#[]⟩, [], true⟩).done) (List.range k)
  simpa using this
/-- Where these lie. -/
def adW (b off : Nat) (i : Nat) : Addr := ⟨b, off + i * 3, none⟩
set_option maxHeartbeats 4000000 in
theorem winOpen_any (b o bb off cap : Nat) (a : Option Addr) (rs : List (Nst Wd)) (w : World) (hc : w.cell? ⟨b, o + 2, none⟩ = some (.slice a rs.length cap)) (hr : Rw 3 wdCl w (.slice a rs.length cap) rs) (ha : rs = [] ∨ a = some ⟨bb, off, none⟩) (hl : rs.length ≤ 1048576) :
    Calls Tryz.prog 138 #[.pointer (some ⟨b, o, none⟩)] w fun e w' => (∃ u, e = .returned u ∧ ApR 202 1 opCl w' w.heap.size u ((opI (rs.map Nst.m) rs.length).map (adW bb off))) ∧ Below w.heap.size w w' := by
  have ba : ∀ (w : World) o, Below w.heap.size w (w.alloc o) := fun w o => (Below.refl _ _).alloc (Nat.le_refl _) o
  have HC := dHide fun W (hb : Below w.heap.size w W) => (hb.cell (p := ⟨b, o + 2, none⟩) (dCell_lt hc)).trans hc
  have HR := dHide fun W (hb : Below w.heap.size w W) => hr.below hb
  have HA := dHide ha
  have t1 := taOpen_done
  have t2 := taOpen_yes
  clear ha hr
  go_enter Tryz.func138, Tryz.ntmps138
  go_wp2
  go_loopw [3, 12] (fun u x wr => ∃ (k : Nat) (oa : Option Addr) (oc : Nat), x = .int .i64 (k : Int) ∧ u = .slice oa (opI (rs.map Nst.m) k).length oc ∧ k ≤ rs.length ∧ Hid (ApR 202 1 opCl wr w.heap.size (.slice oa (opI (rs.map Nst.m) k).length oc) ((opI (rs.map Nst.m) k).map (adW bb off))) ∧ Below w.heap.size w wr) (fun _ x _ => rs.length - (intOf x).toNat)
  case atStart => exact ⟨0, none, 0, rfl, rfl, Nat.zero_le _, .inl ⟨rfl, none, rfl⟩, Below.refl _ _⟩
  case round =>
    obtain ⟨k, oa, oc, rfl, rfl, hk, hA, hb⟩ := hrel
    by_cases hlt : (k : Int) < (rs.length : Int)
    · have hkl : k < rs.length := by omega
      have hne : ¬ rs = [] := fun e => by rw [e] at hkl; simp at hkl
      have ea := (dUnhide HA).resolve_left hne
      subst ea
      obtain ⟨b', off', e', he⟩ := (dUnhide HR wr hb).word hkl
      cases e'
      have c2 := (he k hkl).2.2
      have hcw := dUnhide HC wr hb
      have hst := opI_step (rs.map Nst.m) k (by simpa using hkl)
      rw [List.getElem_map] at hst
      have hol := opI_le (rs.map Nst.m) k
      cases hd : rs[k].m.done with
      | true =>
        rw [hd] at c2 hst
        simp only [if_true, List.append_nil] at hst
        have C1 := dHide (winAt_done b o bb off rs.length cap k wr hcw hkl (by omega) c2)
        have A2 := hA
        have EL := dHide hst
        clear c2 he hcw hst hd hA
        go_wp2_with fail
        refine (dUnhide C1).mono ?_
        rintro e w1 ⟨rfl, rfl⟩
        clear C1
        go_wp2
        go_roundw
        case rel => exact ⟨k + 1, oa, oc, by go_num, by rw [dUnhide EL], by omega, (by rw [dUnhide EL]; exact (dUnhide A2).below (ba _ _)), belowThen hb (ba _ _)⟩
        case measure => simp [intOf]; omega
      | false =>
        rw [hd] at c2 hst
        have C1 := dHide (winAt_open b o bb off rs.length cap k wr hcw hkl (by omega) c2)
        have EL : Hid (opI (rs.map Nst.m) (k + 1) = opI (rs.map Nst.m) k ++ [k]) := by rw [Hid, hst]; rfl
        have bA := ba wr (.cells #[.pointer (some ⟨bb, off + k * 3, none⟩)] 202)
        have bB := ba (wr.alloc (.cells #[.pointer (some ⟨bb, off + k * 3, none⟩)] 202)) (.cells #[.pointer (some ⟨bb, off + k * 3, none⟩)] 202)
        have A2 := dHide (((dUnhide hA).below bA).below bB)
        have RO := rwO_one (wr.alloc (.cells #[.pointer (some ⟨bb, off + k * 3, none⟩)] 202)) ⟨bb, off + k * 3, none⟩ 202 1 (by omega)
        rw [show (wr.alloc (.cells #[.pointer (some ⟨bb, off + k * 3, none⟩)] 202)).heap.size = wr.heap.size + 1 from by simp] at RO
        replace RO := dHide RO
        have tv : Hid (∀ j, touch (.slice oa (opI (rs.map Nst.m) k).length oc) = some j → w.heap.size ≤ j) := fun j hj => ((dUnhide hA).touched elemO hj).1
        have B2 := dHide (belowThen hb (belowThen bA bB))
        have hs2 := hb.size
        clear c2 he hcw hst hd hA bA bB
        go_wp2_with fail
        refine (dUnhide C1).mono ?_
        rintro e w1 ⟨rfl, rfl⟩
        clear C1
        go_wp2_with (first
          | (at_builtin; refine wp_apR elemO rfl _ _ rfl w.heap.size _ ((opI (rs.map Nst.m) k).map (adW bb off)) rfl (dUnhide A2) _ [⟨bb, off + k * 3, none⟩] rfl (dUnhide RO) (by simp; omega) (by simp; omega) (by simp; omega) ?_; intro v5 w5 P5 g5 t5
             obtain ⟨a5, c5, e5⟩ : ∃ a c, v5 = .slice a (opI (rs.map Nst.m) (k + 1)).length c := by
               obtain ⟨a, c, e⟩ := ApR.slice elemO P5
               exact ⟨a, c, by rw [e, dUnhide EL]; simp⟩
             subst e5
             have P6 : Hid (ApR 202 1 opCl w5 w.heap.size (.slice a5 (opI (rs.map Nst.m) (k + 1)).length c5) ((opI (rs.map Nst.m) (k + 1)).map (adW bb off))) := by
               have q := P5
               have e9 : (opI (rs.map Nst.m) (k + 1)).map (adW bb off) = (opI (rs.map Nst.m) k).map (adW bb off) ++ [⟨bb, off + k * 3, none⟩] := by rw [dUnhide EL, List.map_append]; rfl
               rw [Hid, e9]; exact q
             have B5 := dHide ((dUnhide B2).grown g5 (by simp; omega) (fun j hj => dUnhide tv j hj))
             clear P5))
        go_roundw
        case rel => exact ⟨k + 1, a5, c5, by go_num, rfl, by omega, P6, dUnhide B5⟩
        case measure => simp [intOf]; omega
    · have ek : k = rs.length := by omega
      subst ek
      clear HC HR HA
      go_wp2
      go_ret
      exact ⟨⟨_, rfl, dUnhide hA⟩, hb⟩
end Go.Proofs.YthndkkjgjhgdnaaGreatDoor
namespace Go.Proofs.YthndkkjgjhgdnaaGreatDoor
open Go.ChangeShapes Go.WideShapes Go.ChangeAt Go.RowKit
set_option linter.unusedVariables false
set_option linter.unusedSimpArgs false
set_option maxRecDepth 100000

/-- A list of ints that may be appended to, and has no room where it is empty. -/
def RmN (w : World) (base : Nat) (v : Value) (xs : List Int) : Prop := ApR 3 1 (fun x => [.int .i64 x]) w base v xs ∧ (xs = [] → touch v = none)
section
variable {w w' : World} {base base' : Nat} {v : Value} {xs : List Int}
theorem RmN.own (h : RmN w base v xs) : OwnN w base v xs := (ApR.own elemN h.1).n1
theorem RmN.bs (h : RmN w base v xs) : Ns w v xs := h.own.bs
theorem RmN.ge (h : RmN w base v xs) : xs = [] ∨ base ≤ blockOf v := h.own.ge
theorem RmN.mono (h : RmN w base v xs) (hb : base' ≤ base) : RmN w base' v xs := ⟨h.1.mono hb, h.2⟩
theorem RmN.below (h : RmN w base v xs) (hb : Below w.heap.size w w') : RmN w' base v xs := ⟨h.1.below hb, h.2⟩
theorem RmN.touch (h : RmN w base v xs) {j : Nat} (ht : touch v = some j) : xs ≠ [] ∧ j = blockOf v := by
  refine ⟨(fun e => by rw [h.2 e] at ht; cases ht), ?_⟩
  rcases h.1 with ⟨-, a, rfl⟩ | h'
  · cases a <;> simp [Go.Proofs.YthndkkjgjhgdnaaGreatDoor.touch] at ht
  · rcases h'.2 with ⟨rfl, -⟩ | ⟨g, cap, cur, rfl, -⟩
    · simp [Go.Proofs.YthndkkjgjhgdnaaGreatDoor.touch] at ht
    · by_cases hc : cap = 0
      · simp [Go.Proofs.YthndkkjgjhgdnaaGreatDoor.touch, hc] at ht
      · simp [Go.Proofs.YthndkkjgjhgdnaaGreatDoor.touch, hc] at ht
        exact ht.symm
theorem RmN.grown {row : Option Nat} (h : RmN w base v xs) (g : w.grownBy w' row) (hn : xs = [] ∨ row ≠ some (blockOf v)) : RmN w' base v xs := by
  refine ⟨h.1.kept elemN g ?_, h.2⟩
  cases row with
  | none => exact .inl rfl
  | some j =>
    right
    intro ht
    obtain ⟨h1, h2⟩ := h.touch ht
    rcases hn with hn | hn
    · exact h1 hn
    · exact hn (by rw [h2])
theorem RmN.far {b o : Nat} (h : RmN w base v xs) (hb : b < base) (u : Value) : RmN (w.setCell ⟨b, o, none⟩ u) base v xs := ⟨h.1.far elemN hb u, h.2⟩
end
end Go.Proofs.YthndkkjgjhgdnaaGreatDoor
namespace Go.Proofs.YthndkkjgjhgdnaaGreatDoor
open Go.ChangeShapes Go.WideShapes Go.ChangeAt Go.RowKit
set_option linter.unusedVariables false

theorem l1Pick_any (bk b off cap : Nat) (vs : List ByteArray) (w : World) (h1 : 1 ≤ vs.length) (h2 : vs.length ≤ 1000000) (hv : ∀ i (h : i < vs.length), w.cell? ⟨b, off + i, none⟩ = some (.string vs[i])) (hb : b ≠ bk) (hc : Cur w bk) :
    Calls Tryz.prog 76 #[.pointer (some ⟨bk, 0, none⟩), .slice (some ⟨b, off, none⟩) vs.length cap] w fun e w' => (∃ v, v ∈ vs ∧ e = .returned (.string v)) ∧ Cur w' bk ∧ Drawn bk w w' := by
  have HV := dHide hv
  clear hv
  go_enter Tryz.func76, Tryz.ntmps76
  go_wp2_with fail
  refine (l1Below_any bk vs.length h1 (by omega) w hc).mono ?_
  rintro e w1 ⟨⟨x, hx, rfl⟩, hc1, hd1⟩
  have hcell := hd1.cell (dUnhide HV x hx) hb
  have hm := List.getElem_mem hx
  generalize vs[x] = v at *
  go_wp2
  go_ret
  exact ⟨⟨v, hm, rfl⟩, hc1, hd1⟩
/-- Behind a new block of texts: what l1Pick wants. -/
theorem pickT_new {bk : Nat} {w : World} (hc : Cur w bk) (vs : List ByteArray) (T : TypeId) (h1 : 1 ≤ vs.length) (h2 : vs.length ≤ 1000000) (cap : Nat) :
    Calls Tryz.prog 76 #[.pointer (some ⟨bk, 0, none⟩), .slice (some ⟨w.heap.size, 0, none⟩) vs.length cap] (w.alloc (.cells (vs.map Value.string).toArray T)) fun e w' => (∃ v, v ∈ vs ∧ e = .returned (.string v)) ∧ Cur w' bk ∧ Drawn bk w w' := by
  have hb : Below w.heap.size w (w.alloc (.cells (vs.map Value.string).toArray T)) := (Below.refl _ _).alloc (Nat.le_refl _) _
  have hlt := hc.lt
  refine (l1Pick_any bk w.heap.size 0 cap vs _ h1 h2 (fun i h => ?_) (by omega) (hc.below hb)).mono fun e w' ⟨h, k, d⟩ => ⟨h, k, (Drawn.of_below hb).trans d⟩
  simp
end Go.Proofs.YthndkkjgjhgdnaaGreatDoor
namespace Go.Proofs.YthndkkjgjhgdnaaGreatDoor
open Go.ChangeShapes Go.WideShapes Go.ChangeAt Go.RowKit
set_option linter.unusedVariables false

theorem BxZ.made2 {w w' : World} {B : Nat} {a b : Value} {T : TypeId} (h : B ≤ w.heap.size) (hb : Below (w.alloc (.cells #[a, b] T)).heap.size (w.alloc (.cells #[a, b] T)) w') : BxZ w' B w.heap.size [a, b] :=
  (BxZ.new w [a, b] T h).below hb
theorem BxZ.madeD2 {w w' : World} {B : Nat} {a b : Value} {T : TypeId} (h : B ≤ w.heap.size) (hb : Below (w.alloc (.cells #[a, b] T)).drew.heap.size (w.alloc (.cells #[a, b] T)).drew w') : BxZ w' B w.heap.size [a, b] :=
  BxZ.made2 (T := T) h ⟨hb.os, hb.tape, hb.output, hb.size, hb.block⟩
theorem below_two {B b : Nat} {w w' : World} (hb : Below B w w') (h : B ≤ b) (u v : Value) : Below B w ((w'.setCell ⟨b, 0, none⟩ u).setCell ⟨b, 1, none⟩ v) := (hb.setCell (p := ⟨b, 0, none⟩) h u).setCell (p := ⟨b, 1, none⟩) h v
end Go.Proofs.YthndkkjgjhgdnaaGreatDoor
