/- Several texts in one: SitS, SitT, RgB. -/
import Derived.Test.YthndkkjgjhgdnaaGreatDoorGk75
import Derived.Test.YthndkkjgjhgdnaaGreatDoorGaB
import Derived.Test.YthndkkjgjhgdnaaGreatDoorGk83
import Derived.Test.YthndkkjgjhgdnaaGreatDoorGaC
namespace Go.Proofs.YthndkkjgjhgdnaaGreatDoor
open Go.ChangeShapes Go.WideShapes Go.ChangeAt Go.RowKit
set_option linter.unusedVariables false
set_option linter.unusedSimpArgs false
set_option maxRecDepth 100000

theorem makeR (n : Nat) (h : n ≤ 1073741824) (w : World) : (Instr.makeSlice 27 (.int .i64 (n : Int)) (.int .i64 (n : Int))).run Tryz.prog w = .ok (.slice (some ⟨w.heap.size, 0, none⟩) n n) (w.alloc (.cells (madeCells (Value.agg #[.slice none 0 0, .bool false, .int .i64 0]).cells (n * 3)) 57)) := by
  obtain ⟨i0, hi, hz0, hz1, hz2⟩ := info_parts (elemR).info
  have := run_make (P := Tryz.prog) w 27 57 i0 _ Tryz.underlying27 hi hz0 .i64 .i64 (n : Int) (n : Int) (by omega) (by omega) (by rw [hz2]; omega) (by omega)
  rw [hz1] at this
  simpa using this
/-- Zero. -/
def zeroEr : Nst Er := ⟨none, 0, [], false, 0⟩
theorem zeroEr_cells : ∀ (j : Nat) (u : Value), (erCl zeroEr)[j]? = some u → (Value.agg #[.slice none 0 0, .bool false, .int .i64 0]).cells[j]? = some u := by
  have e : (Value.agg #[.slice none 0 0, .bool false, .int .i64 0]).cells = #[.slice none 0 0, .bool false, .int .i64 0] := by kernel_rfl
  intro j u hu
  rw [e]
  have : (erCl zeroEr) = [.slice none 0 0, .bool false, .int .i64 0] := rfl
  rw [this] at hu
  simpa using hu
/-- The eras copied so far. -/
def CopK (wr : World) (b : Nat) (rs : List (Nst Er)) (k : Nat) (f : Nat → Nst Er) : Prop :=
  RowG 3 erCl wr b 0 rs.length f ∧ (∀ i (h : i < rs.length), i < k → (f i).m = rs[i].m ∧ OwnN wr (b + 1) (Sv Er.nodes (f i)) (f i).m.nodes) ∧ ∀ i j, i < k → j < k → i < j → (f i).m.nodes = [] ∨ (f j).m.nodes = [] ∨ blockOf (Sv Er.nodes (f i)) ≠ blockOf (Sv Er.nodes (f j))
theorem CopK.step {wr w2 : World} {b k : Nat} {rs : List (Nst Er)} {f : Nat → Nst Er} (h : CopK wr b rs k f) (hk : k < rs.length) (hb2 : Below wr.heap.size wr w2) (hbw : b < wr.heap.size) {qa : Option Addr} {qc : Nat} (ho : OwnN w2 wr.heap.size (.slice qa rs[k].m.nodes.length qc) rs[k].m.nodes) :
    CopK (((w2.setCell ⟨b, k * 3, none⟩ (.slice qa rs[k].m.nodes.length qc)).setCell ⟨b, k * 3 + 1, none⟩ (.bool rs[k].m.closed)).setCell ⟨b, k * 3 + 2, none⟩ (.int .i64 rs[k].m.last)) b rs (k + 1) (putG f k ⟨qa, qc, rs[k].m⟩) := by
  obtain ⟨h1, h2, h3⟩ := h
  have far : ∀ {base : Nat} {v : Value} {xs : List Int}, OwnN w2 base v xs → b < base → OwnN (((w2.setCell ⟨b, k * 3, none⟩ (.slice qa rs[k].m.nodes.length qc)).setCell ⟨b, k * 3 + 1, none⟩ (.bool rs[k].m.closed)).setCell ⟨b, k * 3 + 2, none⟩ (.int .i64 rs[k].m.last)) base v xs := fun {base v xs} q hb => ((q.far hb _).far hb _).far hb _
  refine ⟨?_, fun i hi hik => ?_, fun i j hi hj hij => ?_⟩
  · have r1 := (h1.below hb2).put erCl_len hk 0 (by decide) (.slice qa rs[k].m.nodes.length qc) ⟨qa, qc, ⟨rs[k].m.nodes, (f k).m.closed, (f k).m.last⟩⟩ rfl
    have r2 := r1.put erCl_len hk 1 (by decide) (.bool rs[k].m.closed) ⟨qa, qc, ⟨rs[k].m.nodes, rs[k].m.closed, (f k).m.last⟩⟩ (by rw [putG_same]; rfl)
    have r3 := r2.put erCl_len hk 2 (by decide) (.int .i64 rs[k].m.last) ⟨qa, qc, rs[k].m⟩ (by rw [putG_same]; rfl)
    simpa [putG_twice] using r3
  · by_cases e : i = k
    · subst e
      rw [putG_same]
      exact ⟨rfl, far (ho.mono (by omega)) (by omega)⟩
    · rw [putG_ne _ _ e]
      have q := h2 i hi (by omega)
      exact ⟨q.1, far (q.2.below hb2) (by omega)⟩
  · by_cases e : j = k
    · subst e
      rw [putG_same, putG_ne _ _ (by omega)]
      have q := h2 i (by omega) (by omega)
      rcases q.2.bs.lt with h | h
      · exact .inl h
      · rcases ho.ge with h' | h'
        · exact .inr (.inl h')
        · right; right
          have e1 : blockOf (Sv Er.nodes (⟨qa, qc, rs[j].m⟩ : Nst Er)) = blockOf (.slice qa rs[j].m.nodes.length qc) := rfl
          rw [e1]
          omega
    · rw [putG_ne _ _ e, putG_ne _ _ (by omega)]
      exact h3 i j (by omega) (by omega) hij
end Go.Proofs.YthndkkjgjhgdnaaGreatDoor
namespace Go.Proofs.YthndkkjgjhgdnaaGreatDoor
open Go.ChangeShapes Go.WideShapes Go.ChangeAt Go.RowKit
set_option linter.unusedVariables false
set_option linter.unusedSimpArgs false
set_option maxRecDepth 100000

/-- Eras of which the first k are marked. -/
def mkF (k0 : Nat) (rs : List (Nst Er)) (k : Nat) (i : Nat) : Nst Er :=
  if i < k then ⟨(rs.getD i zeroEr).a, (rs.getD i zeroEr).c, mkEr (k0 + cntEraS ((rs.map Nst.m).take i)) (rs.getD i zeroEr).m⟩ else rs.getD i zeroEr
theorem mkF_nodes (k0 : Nat) (rs : List (Nst Er)) (k i : Nat) : (mkF k0 rs k i).m.nodes.length = (rs.getD i zeroEr).m.nodes.length ∧ Sv Er.nodes (mkF k0 rs k i) = Sv Er.nodes (rs.getD i zeroEr) := by
  unfold mkF
  split
  · have e : (mkEr (k0 + cntEraS ((rs.map Nst.m).take i)) (rs.getD i zeroEr).m).nodes.length = (rs.getD i zeroEr).m.nodes.length := marksN_len _ _
    refine ⟨e, ?_⟩
    unfold Sv
    simp only [e]
  · exact ⟨rfl, rfl⟩
/-- The state of marking. -/
def MarkK (lo hi k0 : Nat) (w wr : World) (b off : Nat) (rs : List (Nst Er)) (k : Nat) : Prop :=
  RowG 3 erCl wr b off rs.length (mkF k0 rs k) ∧ (∀ i, i < rs.length → OwN lo hi (Sv Er.nodes (mkF k0 rs k i)) (mkF k0 rs k i).m.nodes wr) ∧ Wr lo hi w wr ∧ hi ≤ wr.heap.size
/-- One era is marked. -/
theorem MarkK.step {lo hi k0 : Nat} {w wr w2 : World} {b off k : Nat} {rs : List (Nst Er)} {v : Value} (h : MarkK lo hi k0 w wr b off rs k) (hk : k < rs.length) (hb1 : lo ≤ b) (hb2 : b < hi) (hA : Apart Er.nodes v rs) (hv : blockOf v = b)
    (hO : OwN lo hi (Sv Er.nodes rs[k]) (marksN (k0 + cntEraS ((rs.map Nst.m).take k)) rs[k].m.nodes.length) w2) (b1 b2 : Nat) (hW : Wr b1 b2 wr w2) (hd : (rs[k].m.nodes = [] ∧ b1 = 0 ∧ b2 = 0) ∨ (rs[k].m.nodes ≠ [] ∧ b1 = blockOf (Sv Er.nodes rs[k]) ∧ b2 = blockOf (Sv Er.nodes rs[k]) + 1)) (hW' : Wr lo hi wr w2) :
    RowG 3 erCl w2 b off rs.length (mkF k0 rs k) ∧ MarkK lo hi k0 w ((w2.setCell ⟨b, off + k * 3 + 1, none⟩ (.bool ((k0 + cntEraS ((rs.map Nst.m).take k) + rs[k].m.nodes.length) % 3 == 0))).setCell ⟨b, off + k * 3 + 2, none⟩ (.int .i64 ((k0 + cntEraS ((rs.map Nst.m).take k) + rs[k].m.nodes.length + 1 : Nat) : Int))) b off rs (k + 1) := by
  obtain ⟨h1, h2, h3, h4⟩ := h
  have ek : mkF k0 rs k k = rs[k] := by unfold mkF; rw [if_neg (by omega), getD_lt _ hk]
  have ek1 : mkF k0 rs (k + 1) k = ⟨rs[k].a, rs[k].c, mkEr (k0 + cntEraS ((rs.map Nst.m).take k)) rs[k].m⟩ := by unfold mkF; rw [if_pos (by omega), getD_lt _ hk]
  have ei : ∀ i, i ≠ k → mkF k0 rs (k + 1) i = mkF k0 rs k i := fun i hi => by
    unfold mkF
    by_cases e : i < k
    · rw [if_pos (by omega), if_pos e]
    · rw [if_neg (by omega), if_neg e]
  have hR : RowG 3 erCl w2 b off rs.length (mkF k0 rs k) := h1.wr hW (by
    rcases hd with ⟨-, rfl, rfl⟩ | ⟨hn, rfl, rfl⟩
    · exact .inr (Nat.zero_le _)
    · have := (hA.2 k hk).resolve_left hn
      omega)
  refine ⟨hR, ?_, fun i hil => ?_, ?_, ?_⟩
  · have r1 := hR.put erCl_len hk 1 (by decide) (.bool ((k0 + cntEraS ((rs.map Nst.m).take k) + rs[k].m.nodes.length) % 3 == 0)) ⟨rs[k].a, rs[k].c, ⟨marksN (k0 + cntEraS ((rs.map Nst.m).take k)) rs[k].m.nodes.length, _, rs[k].m.last⟩⟩ (by rw [ek]; unfold erCl Sv; simp only [marksN_len]; rfl)
    have r2 := r1.put erCl_len hk 2 (by decide) (.int .i64 ((k0 + cntEraS ((rs.map Nst.m).take k) + rs[k].m.nodes.length + 1 : Nat) : Int)) ⟨rs[k].a, rs[k].c, mkEr (k0 + cntEraS ((rs.map Nst.m).take k)) rs[k].m⟩ (by rw [putG_same]; rfl)
    rw [putG_twice] at r2
    refine r2.congr fun i hi => ?_
    by_cases e : i = k
    · subst e
      rw [putG_same, ek1]
    · rw [putG_ne _ _ e, ei i e]
  · have far : ∀ {v : Value} {xs : List Int} (u u' : Value), OwN lo hi v xs w2 → (xs = [] ∨ blockOf v ≠ b) → OwN lo hi v xs ((w2.setCell ⟨b, off + k * 3 + 1, none⟩ u).setCell ⟨b, off + k * 3 + 2, none⟩ u') := fun {v xs} u u' q hb => (q.putW hb _).putW hb _
    by_cases e : i = k
    · subst e
      have eS := (mkF_nodes k0 rs (i + 1) i).2
      rw [getD_lt _ hk] at eS
      rw [eS, ek1]
      refine far _ _ hO ?_
      rcases hA.2 i hk with h | h
      · left
        exact (nil_of_len (marksN_len _ _)).2 h
      · right
        rw [← hv]; exact h
    · rw [ei i e]
      obtain ⟨eN, eS⟩ := mkF_nodes k0 rs k i
      rw [getD_lt _ hil] at eN eS
      have q := h2 i hil
      have q1 : OwN lo hi (Sv Er.nodes (mkF k0 rs k i)) (mkF k0 rs k i).m.nodes w2 := q.wr hW (by
        rcases hd with ⟨-, rfl, rfl⟩ | ⟨hn, rfl, rfl⟩
        · exact .inr (.inr (Nat.zero_le _))
        · rcases hA.1 i k hil hk e with h | h | h
          · exact .inl ((nil_of_len eN).2 h)
          · exact absurd h hn
          · rw [eS]
            exact .inr (by omega))
      refine far _ _ q1 ?_
      rcases hA.2 i hil with h | h
      · exact .inl ((nil_of_len eN).2 h)
      · right
        rw [eS, ← hv]; exact h
  · exact ((h3.trans hW').setW hb1 hb2 _).setW hb1 hb2 _
  · have := hW'.size
    simp
    omega
end Go.Proofs.YthndkkjgjhgdnaaGreatDoor
namespace Go.Proofs.YthndkkjgjhgdnaaGreatDoor
open Go.ChangeShapes Go.WideShapes Go.ChangeAt Go.RowKit
set_option linter.unusedVariables false
set_option linter.unusedSimpArgs false
set_option maxRecDepth 100000

/-- The first epoch that is open, or 0. -/
def firstO : List Er → Nat
  | [] => 0
  | e :: l => if e.closed then (if firstO l = 0 then 0 else firstO l + 1) else 1
theorem firstO_le : ∀ ms : List Er, firstO ms ≤ ms.length
  | [] => Nat.le_refl _
  | e :: l => by
    have := firstO_le l
    unfold firstO
    split
    · split <;> simp <;> omega
    · simp
theorem firstO_none : ∀ ms : List Er, (∀ i (h : i < ms.length), ms[i].closed = true) → firstO ms = 0
  | [], _ => rfl
  | e :: l, h => by
    have h0 : e.closed = true := h 0 (by simp)
    have h1 := firstO_none l fun i hi => h (i + 1) (by simpa using hi)
    unfold firstO
    rw [if_pos h0, if_pos h1]
theorem firstO_at : ∀ (ms : List Er) (k : Nat) (hk : k < ms.length), (∀ i (h : i < ms.length), i < k → ms[i].closed = true) → ms[k].closed = false → firstO ms = k + 1
  | [], k, hk, _, _ => by simp at hk
  | e :: l, 0, hk, _, ho => by
    have h0 : e.closed = false := ho
    unfold firstO
    rw [h0]
    rfl
  | e :: l, k + 1, hk, h, ho => by
    have h0 : e.closed = true := h 0 (by simp) (by omega)
    have h1 := firstO_at l k (by simpa using hk) (fun i hi hik => h (i + 1) (by simpa using hi) (by omega)) (by simpa using ho)
    unfold firstO
    rw [if_pos h0, if_neg (by omega), h1]
/-- Of the first epoch that is open: those before are closed, it is not. -/
theorem firstO_pos {ms : List Er} (h : firstO ms ≠ 0) : ∃ k, ∃ hk : k < ms.length, firstO ms = k + 1 ∧ ms[k].closed = false ∧ ∀ i (hi : i < ms.length), i < k → ms[i].closed = true := by
  induction ms with
  | nil => exact absurd rfl h
  | cons e l ih =>
    cases hc : e.closed with
    | false => exact ⟨0, by simp, by unfold firstO; rw [hc]; rfl, hc, fun i hi h' => by omega⟩
    | true =>
      have e1 : firstO (e :: l) = if firstO l = 0 then 0 else firstO l + 1 := by conv => lhs; unfold firstO; rw [if_pos hc]
      by_cases h0 : firstO l = 0
      · rw [e1, if_pos h0] at h; exact absurd rfl h
      · obtain ⟨k, hk, q1, q2, q3⟩ := ih h0
        refine ⟨k + 1, by simpa using hk, by rw [e1, if_neg h0, q1], by simpa using q2, fun i hi hik => ?_⟩
        cases i with
        | zero => exact hc
        | succ i => simpa using q3 i (by simpa using hi) (by omega)
theorem firstO_zero {ms : List Er} (h : firstO ms = 0) : ∀ i (hi : i < ms.length), ms[i].closed = true := by
  induction ms with
  | nil => intro i hi; simp at hi
  | cons e l ih =>
    cases hc : e.closed with
    | false =>
      have e1 : firstO (e :: l) = 1 := by unfold firstO; rw [hc]; rfl
      omega
    | true =>
      have e1 : firstO (e :: l) = if firstO l = 0 then 0 else firstO l + 1 := by conv => lhs; unfold firstO; rw [if_pos hc]
      by_cases h0 : firstO l = 0
      · intro i hi
        cases i with
        | zero => exact hc
        | succ i => simpa using ih h0 i (by simpa using hi)
      · rw [e1, if_neg h0] at h; omega
set_option maxHeartbeats 2000000 in
theorem specFirst_any (v : Value) (m : Rg) (w : World) (hv : RdRegister v m w) :
    Calls Tryz.prog 104 #[v] w fun e w' => e = .returned (.int .i64 (firstO m.eras : Int)) ∧ Below w.heap.size w w' := by
  obtain ⟨sv, rfl, hv⟩ := hv
  obtain ⟨tr, hr⟩ : ∃ tr, m.trim = tr := ⟨_, rfl⟩
  rw [hr]
  generalize hm : m.eras = ms at *
  clear hm hr
  obtain ⟨rs, rfl, hr, -⟩ := hv
  have hl0 := hr.1
  have HV := dHide fun W (hb : Below w.heap.size w W) => hr.below hb
  obtain ⟨-, a, cap, rfl, -, -⟩ := hr
  have FN : Hid ((∀ i (h : i < rs.length), rs[i].m.closed = true) → firstO (rs.map Nst.m) = 0) := fun h => firstO_none _ fun i hi => by rw [List.getElem_map]; exact h i (by simpa using hi)
  have FA : Hid (∀ k (hk : k < rs.length), (∀ i (h : i < rs.length), i < k → rs[i].m.closed = true) → rs[k].m.closed = false → firstO (rs.map Nst.m) = k + 1) := fun k hk h1 h2 => firstO_at _ k (by simpa using hk) (fun i hi hik => by rw [List.getElem_map]; exact h1 i (by simpa using hi) hik) (by rw [List.getElem_map]; exact h2)
  generalize firstO (rs.map Nst.m) = F at *
  have ba : Below w.heap.size w (w.alloc (.cells #[.slice a rs.length cap, .int .i64 tr] 29)) := (Below.refl _ _).alloc (Nat.le_refl _) _
  have X0 := Bx.new w [.slice a rs.length cap, .int .i64 tr] 29
  go_enter Tryz.func104, Tryz.ntmps104
  go_wp2
  have k0 := X0 0 _ rfl
  have HR := dHide (dUnhide HV _ ba)
  generalize w.alloc (.cells #[.slice a rs.length cap, .int .i64 tr] 29) = w0 at *
  clear HV X0
  go_loopw [3] (fun x wr => ∃ k : Nat, x = .int .i64 (k : Int) ∧ k ≤ rs.length ∧ Hid (∀ i (h : i < rs.length), i < k → rs[i].m.closed = true) ∧ wr = w0) (fun x _ => rs.length - (intOf x).toNat)
  case atStart => exact ⟨0, rfl, Nat.zero_le _, fun i h h' => by omega, rfl⟩
  case round =>
    obtain ⟨k, rfl, hk, hc, rfl⟩ := hrel
    by_cases hlt : (k : Int) < (rs.length : Int)
    · have hkl : k < rs.length := by omega
      obtain ⟨b, off, rfl, he⟩ := (dUnhide HR).era hkl
      have c1 := (he k hkl).2.1
      cases hcl : rs[k].m.closed with
      | true =>
        rw [hcl] at c1
        have H2 : Hid (∀ i (h : i < rs.length), i < k + 1 → rs[i].m.closed = true) := fun i h hi => by
          by_cases e : i = k
          · subst e; exact hcl
          · exact dUnhide hc i h (by omega)
        clear hc he
        go_wp2
        go_roundw
        case rel => exact ⟨k + 1, by go_num, by omega, H2, by trivial⟩
        case measure => simp [intOf]; omega
      | false =>
        rw [hcl] at c1
        have e1 := dUnhide FA k hkl (dUnhide hc) hcl
        have e2 : Hid ((F : Int) = (k : Int) + 1) := by rw [Hid, e1]; omega
        clear hc he FN FA e1
        go_wp2
        go_ret
        exact ⟨by rw [dUnhide e2]; go_num, ba⟩
    · have e1 := dUnhide FN fun i h => dUnhide hc i h (by omega)
      clear hc FN FA
      go_wp2
      go_ret
      exact ⟨by first | rfl | (rw [e1]; rfl), ba⟩
/-- The nodes of an epoch. -/
def eraN (m : Rg) (x : Int) : List Int := if 1 ≤ x ∧ x ≤ (m.eras.length : Int) then (m.eras.getD (x.toNat - 1) ⟨[], false, 0⟩).nodes else []
theorem eraN_at {m : Rg} {k : Nat} (hk : k < m.eras.length) : eraN m ((k : Int) + 1) = m.eras[k].nodes := by
  unfold eraN
  rw [if_pos (by omega), show ((k : Int) + 1).toNat - 1 = k by omega, getD_lt _ hk]
theorem eraN_no {m : Rg} {x : Int} (h : ¬ (1 ≤ x ∧ x ≤ (m.eras.length : Int))) : eraN m x = [] := if_neg h
end Go.Proofs.YthndkkjgjhgdnaaGreatDoor
