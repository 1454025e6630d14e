/- impl's reader of entries. -/
import Derived.Test.YtognmmmplmideaaImpCd
import Derived.Test.YtognmmmplmideaaEntD
import Derived.Test.YtognmmmplmideaaRdrC
import Derived.Deep.RegionHeld3
namespace Go.Proofs.Ytognmmmplmideaa
open Go.ChangeShapes Go.WideShapes Go.ChangeAt Go.RowKit
set_option linter.unusedVariables false

theorem num_any (v : Value) (bs : List UInt8) (pk : Nat) (x : Int) (w : World) (hv : Bs w v bs) (hp : Plc w pk x) (hne : bs = [] ∨ blockOf v ≠ pk) :
    Calls Try.prog 40 #[rdr v pk] w fun e w' => e = .returned (numT (getZ bs x)) ∧ (∀ n k, getZ bs x = some (n, k) → Plc w' pk ((x.toNat + k : Nat) : Int)) ∧ Moved pk w w' := by
  by_cases h : x < 0
  · refine (num_neg v bs pk x w hv hp h).mono fun e w' ⟨h1, h2⟩ => ?_
    have : getZ bs x = none := by rw [getZ, if_pos (.inl h)]
    rw [this]
    exact ⟨h1, (fun n k h => by cases h), h2⟩
  · obtain ⟨n, rfl⟩ := Int.eq_ofNat_of_zero_le (show 0 ≤ x by omega)
    rw [getZ_of]
    exact num_nat v bs pk n w hv hp hne
theorem text_any (v : Value) (bs : List UInt8) (pk : Nat) (x : Int) (w : World) (hv : Bs w v bs) (hl : bs.length ≤ 1099511627776) (hp : Plc w pk x) (hne : bs = [] ∨ blockOf v ≠ pk) :
    Calls Try.prog 80 #[rdr v pk] w fun e w' => e = .returned (rtextT (gtextZ bs x)) ∧ (∀ t k, gtextZ bs x = some (t, k) → Plc w' pk (k : Int)) ∧ Moved pk w w' := by
  by_cases h : x < 0
  · refine (text_neg v bs pk x w hv hp h).mono fun e w' ⟨h1, h2⟩ => ?_
    have : gtextZ bs x = none := by rw [gtextZ, if_pos (.inl h)]
    rw [this]
    exact ⟨h1, (fun n k h => by cases h), h2⟩
  · obtain ⟨n, rfl⟩ := Int.eq_ofNat_of_zero_le (show 0 ≤ x by omega)
    rw [gtextZ_of]
    exact text_nat v bs pk n w hv hl hp hne
/-- num's answer, its parts. -/
def numV (o : Option (Nat × Nat)) : Nat := match o with
  | none => 0
  | some (x, _) => x
theorem numT_parts (o : Option (Nat × Nat)) : numT o = .tuple #[.int .i64 (numV o : Int), .bool o.isSome] := by
  cases o with
  | none => rfl
  | some r => rfl
/-- text's answer, its parts. -/
def txtV (o : Option (List UInt8 × Nat)) : List UInt8 := match o with
  | none => []
  | some (x, _) => x
theorem rtextT_parts (o : Option (List UInt8 × Nat)) : rtextT o = .tuple #[.string ⟨(txtV o).toArray⟩, .bool o.isSome] := by
  cases o with
  | none => rfl
  | some r => rfl
theorem Bs.moved {pk : Nat} {w w' : World} {v : Value} {bs : List UInt8} (h : Bs w v bs) (hd : Moved pk w w') (hne : bs = [] ∨ blockOf v ≠ pk) : Bs w' v bs := h.drawn hd.1 hne
/-- What is read one behind the other. -/
structure Reads (bs : List UInt8) (x : Int) (o1 o2 o3 : Option (Nat × Nat)) (o4 : Option (List UInt8 × Nat)) : Prop where
  r1 : getZ bs x = o1
  r2 : ∀ n k, o1 = some (n, k) → getB (bs.drop (x.toNat + k)) = o2
  r3 : ∀ n1 k1 n2 k2, o1 = some (n1, k1) → o2 = some (n2, k2) → getB (bs.drop (x.toNat + k1 + k2)) = o3
  r4 : ∀ n1 k1 n2 k2 n3 k3, o1 = some (n1, k1) → o2 = some (n2, k2) → o3 = some (n3, k3) → gtextB bs (x.toNat + k1 + k2 + k3) = o4
theorem Reads.no {bs : List UInt8} {x : Int} {o1 o2 o3 : Option (Nat × Nat)} {o4 : Option (List UInt8 × Nat)} (h : Reads bs x o1 o2 o3 o4) (hn : o1.isSome = false ∨ o2.isSome = false ∨ o3.isSome = false ∨ o4.isSome = false ∨ 1 < numV o3) : readZ bs x = none := by
  obtain ⟨r1, r2, r3, r4⟩ := h
  unfold readZ
  rw [r1]
  cases o1 with
  | none => rfl
  | some p1 =>
    obtain ⟨n1, k1⟩ := p1
    simp only [readA, r2 n1 k1 rfl]
    cases o2 with
    | none => rfl
    | some p2 =>
      obtain ⟨n2, k2⟩ := p2
      simp only [readB, r3 n1 k1 n2 k2 rfl rfl]
      cases o3 with
      | none => rfl
      | some p3 =>
        obtain ⟨n3, k3⟩ := p3
        simp only
        by_cases h3 : 1 < n3
        · rw [if_pos h3]
        · rw [if_neg h3]
          simp only [readC, r4 n1 k1 n2 k2 n3 k3 rfl rfl rfl]
          cases o4 with
          | none => rfl
          | some p4 => exfalso; simp [numV] at hn; omega
theorem Reads.yes {bs : List UInt8} {x : Int} {o1 o2 o3 : Option (Nat × Nat)} {o4 : Option (List UInt8 × Nat)} (h : Reads bs x o1 o2 o3 o4) (h1 : o1.isSome = true) (h2 : o2.isSome = true) (h3 : o3.isSome = true) (h4 : o4.isSome = true) (h5 : ¬ 1 < numV o3) :
    ∃ q, (∀ t k, o4 = some (t, k) → k = q) ∧ readZ bs x = if entOk (entOf (numV o1) (numV o2) (numV o3) (txtV o4)) then some (entOf (numV o1) (numV o2) (numV o3) (txtV o4), q) else none := by
  obtain ⟨r1, r2, r3, r4⟩ := h
  obtain ⟨⟨n1, k1⟩, rfl⟩ := Option.isSome_iff_exists.1 h1
  obtain ⟨⟨n2, k2⟩, rfl⟩ := Option.isSome_iff_exists.1 h2
  obtain ⟨⟨n3, k3⟩, rfl⟩ := Option.isSome_iff_exists.1 h3
  obtain ⟨⟨t, q⟩, rfl⟩ := Option.isSome_iff_exists.1 h4
  refine ⟨q, fun t k h => by cases h; rfl, ?_⟩
  unfold readZ
  rw [r1]
  simp only [readA, r2 n1 k1 rfl, readB, r3 n1 k1 n2 k2 rfl rfl]
  have h5' : ¬ 1 < n3 := h5
  rw [if_neg h5']
  simp only [readC, r4 n1 k1 n2 k2 n3 k3 rfl rfl rfl, numV, txtV]
  rfl
theorem Reads.fits {bs : List UInt8} {x : Int} {o1 o2 o3 : Option (Nat × Nat)} {o4 : Option (List UInt8 × Nat)} (h : Reads bs x o1 o2 o3 o4) (h1 : o1.isSome = true) (h2 : o2.isSome = true) (h3 : o3.isSome = true) (h4 : o4.isSome = true) (hl : bs.length ≤ 1099511627776) : (entOf (numV o1) (numV o2) (numV o3) (txtV o4)).fits := by
  obtain ⟨r1, r2, r3, r4⟩ := h
  obtain ⟨⟨n1, k1⟩, rfl⟩ := Option.isSome_iff_exists.1 h1
  obtain ⟨⟨n2, k2⟩, rfl⟩ := Option.isSome_iff_exists.1 h2
  obtain ⟨⟨n3, k3⟩, rfl⟩ := Option.isSome_iff_exists.1 h3
  obtain ⟨⟨t, q⟩, rfl⟩ := Option.isSome_iff_exists.1 h4
  have b1 := getZ_bd r1
  have b2 := (getB_bd (r2 n1 k1 rfl)).1
  have b4 : t.length ≤ 9223372036854775807 := Nat.le_trans (gtextB_len (r4 n1 k1 n2 k2 n3 k3 rfl rfl rfl)) (by omega)
  exact ⟨by show _ ≤ (n1 : Int); omega, by show (n1 : Int) ≤ _; omega, by show _ ≤ (n2 : Int); omega, by show (n2 : Int) ≤ _; omega, b4⟩
theorem Four.far4 {w : World} {b b' : Nat} {c0 c1 c2 c3 : Value} (h : Four w b c0 c1 c2 c3) (hb : b ≠ b') (v0 v1 v2 v3 : Value) :
    Four ((((w.setCell ⟨b', 0, none⟩ v0).setCell ⟨b', 1, none⟩ v1).setCell ⟨b', 2, none⟩ v2).setCell ⟨b', 3, none⟩ v3) b c0 c1 c2 c3 := by
  obtain ⟨k0, k1, k2, k3⟩ := h
  refine ⟨?_, ?_, ?_, ?_⟩
  · exact set_other (set_other (set_other (set_other k0 (by omega)) (by omega)) (by omega)) (by omega)
  · exact set_other (set_other (set_other (set_other k1 (by omega)) (by omega)) (by omega)) (by omega)
  · exact set_other (set_other (set_other (set_other k2 (by omega)) (by omega)) (by omega)) (by omega)
  · exact set_other (set_other (set_other (set_other k3 (by omega)) (by omega)) (by omega)) (by omega)
theorem Plc.set4 {W : World} {pk b : Nat} {y : Int} (h : Plc W pk y) (hb : b ≠ pk) (v0 v1 v2 v3 : Value) :
    Plc ((((W.setCell ⟨b, 0, none⟩ v0).setCell ⟨b, 1, none⟩ v1).setCell ⟨b, 2, none⟩ v2).setCell ⟨b, 3, none⟩ v3) pk y :=
  ⟨set_other (set_other (set_other (set_other h.1 (by omega)) (by omega)) (by omega)) (by omega),
   (World.frozen?_setCell _ _ _ _).trans ((World.frozen?_setCell _ _ _ _).trans ((World.frozen?_setCell _ _ _ _).trans ((World.frozen?_setCell _ _ _ _).trans h.2)))⟩
theorem Drawn.set4 {w W : World} {pk b : Nat} (h : Drawn pk w W) (hb : w.heap.size ≤ b) (v0 v1 v2 v3 : Value) :
    Drawn pk w ((((W.setCell ⟨b, 0, none⟩ v0).setCell ⟨b, 1, none⟩ v1).setCell ⟨b, 2, none⟩ v2).setCell ⟨b, 3, none⟩ v3) := (((h.setNew hb 0 v0).setNew hb 1 v1).setNew hb 2 v2).setNew hb 3 v3
set_option maxHeartbeats 2000000 in
set_option maxRecDepth 100000 in
theorem entry_any (v : Value) (bs : List UInt8) (pk : Nat) (x : Int) (w : World) (hv : Bs w v bs) (hl : bs.length ≤ 1099511627776) (hp : Plc w pk x) (hne : bs = [] ∨ blockOf v ≠ pk) :
    Calls Try.prog 41 #[rdr v pk] w fun e w' => ∃ m : Ent, e = .returned (.tuple #[m.val, .bool (readZ bs x).isSome]) ∧ (∀ m' p, readZ bs x = some (m', p) → m' = m ∧ Plc w' pk (p : Int)) ∧ Moved pk w w' := by
  have plt := dCell_lt hp.1
  have hb : ∀ o1 o2, Below w.heap.size w ((w.alloc o1).alloc o2) := fun o1 o2 => ((Below.refl _ _).alloc (Nat.le_refl _) o1).alloc (by simp) o2
  have HV := dHide fun o1 o2 => hv.below (hb o1 o2)
  have HP := dHide fun o1 o2 => hp.below (hb o1 o2)
  have D0 := dHide fun o1 o2 => Drawn.of_below (bk := pk) (hb o1 o2)
  clear hv hp hb
  have hrb : w.heap.size ≠ pk := by omega
  have hrc : w.heap.size + 1 ≠ pk := by omega
  unfold rdr at *
  go_enter Try.func41, Try.ntmps41
  go_wp2_with fail
  have c0 : ((w.alloc (.cells #[v, .pointer (some ⟨pk, 0, none⟩)] 72)).alloc (.cells #[.int .i64 0, .int .i64 0, .bool false, .string ⟨#[]⟩] 66)).cell? ⟨w.heap.size, 0, none⟩ = some v := by simp
  have c1 : ((w.alloc (.cells #[v, .pointer (some ⟨pk, 0, none⟩)] 72)).alloc (.cells #[.int .i64 0, .int .i64 0, .bool false, .string ⟨#[]⟩] 66)).cell? ⟨w.heap.size, 1, none⟩ = some (.pointer (some ⟨pk, 0, none⟩)) := by simp
  have Z0 := FourZ.fresh (w.alloc (.cells #[v, .pointer (some ⟨pk, 0, none⟩)] 72)) (.int .i64 0) (.int .i64 0) (.bool false) (.string ⟨#[]⟩) 66
  have D1 := dUnhide D0 (.cells #[v, .pointer (some ⟨pk, 0, none⟩)] 72) (.cells #[.int .i64 0, .int .i64 0, .bool false, .string ⟨#[]⟩] 66)
  have V1 := dUnhide HV (.cells #[v, .pointer (some ⟨pk, 0, none⟩)] 72) (.cells #[.int .i64 0, .int .i64 0, .bool false, .string ⟨#[]⟩] 66)
  have P1 := dUnhide HP (.cells #[v, .pointer (some ⟨pk, 0, none⟩)] 72) (.cells #[.int .i64 0, .int .i64 0, .bool false, .string ⟨#[]⟩] 66)
  have hsz : (w.alloc (.cells #[v, .pointer (some ⟨pk, 0, none⟩)] 72)).heap.size = w.heap.size + 1 := by simp
  rw [hsz] at Z0
  clear hsz D0 HV HP
  generalize (w.alloc (.cells #[v, .pointer (some ⟨pk, 0, none⟩)] 72)).alloc (.cells #[.int .i64 0, .int .i64 0, .bool false, .string ⟨#[]⟩] 66) = w1 at *
  generalize hB : w.heap.size + 1 = rb at *
  have HD1 := dHide D1
  have HV1 := dHide V1
  have HZ1 := dHide Z0
  have C := num_any v bs pk x w1 V1 P1 hne
  unfold rdr at C
  clear D1 V1 Z0 P1
  refine C.mono ?_
  rintro e w2 ⟨rfl, p2, m2⟩
  clear C
  have q0 := m2.1.cell c0 hrb
  have q1 := m2.1.cell c1 hrb
  have HD2 := dHide ((dUnhide HD1).trans m2.1)
  have HV2 := dHide ((dUnhide HV1).moved m2 hne)
  have HZ2 := dHide ((dUnhide HZ1).drawn m2.1 hrc)
  obtain ⟨y2, hy2⟩ := m2.2
  have C := num_any v bs pk y2 w2 (dUnhide HV2) hy2 hne
  have E2 : ∀ n k, getZ bs x = some (n, k) → getZ bs y2 = getB (bs.drop (x.toNat + k)) := fun n k h => by
    have := p2 n k h
    have e : y2 = ((x.toNat + k : Nat) : Int) := by have h1 := hy2.1.symm.trans this.1; simpa using h1
    rw [e, getZ_of]
  have HE2 := dHide E2
  have HY2 : Hid (∀ n k, getZ bs x = some (n, k) → y2 = ((x.toNat + k : Nat) : Int)) := fun n k h => by
    have h1 := hy2.1.symm.trans (p2 n k h).1; simpa using h1
  have P2 := dHide p2
  have HC := dHide C
  rw [numT_parts]
  clear c0 c1 HD1 HV1 HZ1 m2 hy2 E2 p2 C
  generalize hR1 : getZ bs x = o1 at *
  have R1 := dHide hR1
  clear hR1
  go_wp2_with fail
  have C := dUnhide HC
  unfold rdr at C
  refine C.mono ?_
  rintro e w3 ⟨rfl, p3, m3⟩
  clear C HC
  have s0 := m3.1.cell q0 hrb
  have s1 := m3.1.cell q1 hrb
  have HD3 := dHide ((dUnhide HD2).trans m3.1)
  have HV3 := dHide ((dUnhide HV2).moved m3 hne)
  have HZ3 := dHide ((dUnhide HZ2).drawn m3.1 hrc)
  obtain ⟨y3, hy3⟩ := m3.2
  have HC := dHide (num_any v bs pk y3 w3 (dUnhide HV3) hy3 hne)
  generalize hR2 : getZ bs y2 = o2 at *
  have R2 : Hid (∀ n k, o1 = some (n, k) → getB (bs.drop (x.toNat + k)) = o2) := fun n k h => (dUnhide HE2 n k h).symm
  have HE3 : Hid (∀ n1 k1 n2 k2, o1 = some (n1, k1) → o2 = some (n2, k2) → y3 = ((x.toNat + k1 + k2 : Nat) : Int)) := by
    intro n1 k1 n2 k2 h1 h2
    have e2 := dUnhide P2 n1 k1 h1
    have hy : y2.toNat = x.toNat + k1 := by
      have := dUnhide HY2 n1 k1 h1
      omega
    have e3 := p3 n2 k2 h2
    rw [hy] at e3
    have h1 := hy3.1.symm.trans e3.1
    simpa using h1
  rw [numT_parts]
  clear q0 q1 HD2 HV2 HZ2 m3 hy3 p3 hR2 HE2 P2 HY2
  go_wp2_with fail
  have C := dUnhide HC
  unfold rdr at C
  refine C.mono ?_
  rintro e w4 ⟨rfl, p4, m4⟩
  clear C HC
  have q0 := m4.1.cell s0 hrb
  have q1 := m4.1.cell s1 hrb
  have HD4 := dHide ((dUnhide HD3).trans m4.1)
  have HV4 := dHide ((dUnhide HV3).moved m4 hne)
  have HZ4 := dHide ((dUnhide HZ3).drawn m4.1 hrc)
  obtain ⟨y4, hy4⟩ := m4.2
  have HC := dHide (text_any v bs pk y4 w4 (dUnhide HV4) hl hy4 hne)
  have R3 : Hid (∀ n1 k1 n2 k2, o1 = some (n1, k1) → o2 = some (n2, k2) → getB (bs.drop (x.toNat + k1 + k2)) = getZ bs y3) := by
    intro n1 k1 n2 k2 h1 h2
    rw [dUnhide HE3 n1 k1 n2 k2 h1 h2, getZ_of]
  generalize hR3 : getZ bs y3 = o3 at *
  have HE4 : Hid (∀ n1 k1 n2 k2 n3 k3, o1 = some (n1, k1) → o2 = some (n2, k2) → o3 = some (n3, k3) → y4 = ((x.toNat + k1 + k2 + k3 : Nat) : Int)) := by
    intro n1 k1 n2 k2 n3 k3 h1 h2 h3
    have e3 := dUnhide HE3 n1 k1 n2 k2 h1 h2
    have e4 := p4 n3 k3 h3
    have hy : y3.toNat = x.toNat + k1 + k2 := by omega
    rw [hy] at e4
    have h1 := hy4.1.symm.trans e4.1
    simpa using h1
  rw [numT_parts]
  clear s0 s1 HD3 HV3 HZ3 m4 hy4 p4 hR3 HE3
  go_wp2_with fail
  have C := dUnhide HC
  unfold rdr at C
  refine C.mono ?_
  rintro e w5 ⟨rfl, p5, m5⟩
  clear C HC
  have HD5 := dHide ((dUnhide HD4).trans m5.1)
  have HZ5 := dHide ((dUnhide HZ4).drawn m5.1 hrc)
  have HM5 := dHide m5.2
  have R4 : Hid (∀ n1 k1 n2 k2 n3 k3, o1 = some (n1, k1) → o2 = some (n2, k2) → o3 = some (n3, k3) → gtextB bs (x.toNat + k1 + k2 + k3) = gtextZ bs y4) := by
    intro n1 k1 n2 k2 n3 k3 h1 h2 h3
    rw [dUnhide HE4 n1 k1 n2 k2 n3 k3 h1 h2 h3, gtextZ_of]
  generalize hR4 : gtextZ bs y4 = o4 at *
  have HR : Hid (Reads bs x o1 o2 o3 o4) := ⟨dUnhide R1, dUnhide R2, dUnhide R3, dUnhide R4⟩
  have HP5 := dHide p5
  rw [rtextT_parts]
  clear q0 q1 HD4 HV4 HZ4 m5 p5 hR4 HE4 R1 R2 R3 R4
  have hZ := dUnhide HZ5
  obtain ⟨zb, ⟨k0, k1, k2, k3⟩, f0, f1, f2, f3⟩ := hZ
  generalize hb1 : o1.isSome = b1
  generalize hb2 : o2.isSome = b2
  generalize hb3 : o3.isSome = b3
  generalize hb4 : o4.isSome = b4
  cases b1 with
  | false =>
    · skip
      have HN := dHide ((dUnhide HR).no (.inl hb1))
      go_wp2
      obtain ⟨e0, e1, e2, e3⟩ := (dUnhide HZ5).set (.int .i64 0) (.int .i64 0) (.bool false) (.string ⟨#[]⟩)
      have hm : Moved pk w ((((w5.setCell ⟨rb, 0, none⟩ (.int .i64 0)).setCell ⟨rb, 1, none⟩ (.int .i64 0)).setCell ⟨rb, 2, none⟩ (.bool false)).setCell ⟨rb, 3, none⟩ (.string ⟨#[]⟩)) := ⟨(dUnhide HD5).set4 (by omega) _ _ _ _, by obtain ⟨y, hy⟩ := dUnhide HM5; exact ⟨y, hy.set4 hrc _ _ _ _⟩⟩
      clear f0 f1 f2 f3 k0 k1 k2 k3
      generalize (((w5.setCell ⟨rb, 0, none⟩ (.int .i64 0)).setCell ⟨rb, 1, none⟩ (.int .i64 0)).setCell ⟨rb, 2, none⟩ (.bool false)).setCell ⟨rb, 3, none⟩ (.string ⟨#[]⟩) = W at *
      refine bodyPost_ret (v := .tuple #[Ent.val ⟨0, 0, false, ⟨#[]⟩⟩, .bool false]) (by simp [results, Try.results41, go_sem, e0, e1, e2, e3, Ent.val]) rfl ⟨_, by rw [dUnhide HN]; rfl, (fun m' p h => by rw [dUnhide HN] at h; cases h), hm⟩
  | true =>
    cases b2 with
    | false =>
      skip
      have HN := dHide ((dUnhide HR).no (.inr (.inl hb2)))
      go_wp2
      obtain ⟨e0, e1, e2, e3⟩ := (dUnhide HZ5).set (.int .i64 0) (.int .i64 0) (.bool false) (.string ⟨#[]⟩)
      have hm : Moved pk w ((((w5.setCell ⟨rb, 0, none⟩ (.int .i64 0)).setCell ⟨rb, 1, none⟩ (.int .i64 0)).setCell ⟨rb, 2, none⟩ (.bool false)).setCell ⟨rb, 3, none⟩ (.string ⟨#[]⟩)) := ⟨(dUnhide HD5).set4 (by omega) _ _ _ _, by obtain ⟨y, hy⟩ := dUnhide HM5; exact ⟨y, hy.set4 hrc _ _ _ _⟩⟩
      clear f0 f1 f2 f3 k0 k1 k2 k3
      generalize (((w5.setCell ⟨rb, 0, none⟩ (.int .i64 0)).setCell ⟨rb, 1, none⟩ (.int .i64 0)).setCell ⟨rb, 2, none⟩ (.bool false)).setCell ⟨rb, 3, none⟩ (.string ⟨#[]⟩) = W at *
      refine bodyPost_ret (v := .tuple #[Ent.val ⟨0, 0, false, ⟨#[]⟩⟩, .bool false]) (by simp [results, Try.results41, go_sem, e0, e1, e2, e3, Ent.val]) rfl ⟨_, by rw [dUnhide HN]; rfl, (fun m' p h => by rw [dUnhide HN] at h; cases h), hm⟩
    | true =>
     cases b3 with
     | false =>
      skip
      have HN := dHide ((dUnhide HR).no (.inr (.inr (.inl hb3))))
      go_wp2
      obtain ⟨e0, e1, e2, e3⟩ := (dUnhide HZ5).set (.int .i64 0) (.int .i64 0) (.bool false) (.string ⟨#[]⟩)
      have hm : Moved pk w ((((w5.setCell ⟨rb, 0, none⟩ (.int .i64 0)).setCell ⟨rb, 1, none⟩ (.int .i64 0)).setCell ⟨rb, 2, none⟩ (.bool false)).setCell ⟨rb, 3, none⟩ (.string ⟨#[]⟩)) := ⟨(dUnhide HD5).set4 (by omega) _ _ _ _, by obtain ⟨y, hy⟩ := dUnhide HM5; exact ⟨y, hy.set4 hrc _ _ _ _⟩⟩
      clear f0 f1 f2 f3 k0 k1 k2 k3
      generalize (((w5.setCell ⟨rb, 0, none⟩ (.int .i64 0)).setCell ⟨rb, 1, none⟩ (.int .i64 0)).setCell ⟨rb, 2, none⟩ (.bool false)).setCell ⟨rb, 3, none⟩ (.string ⟨#[]⟩) = W at *
      refine bodyPost_ret (v := .tuple #[Ent.val ⟨0, 0, false, ⟨#[]⟩⟩, .bool false]) (by simp [results, Try.results41, go_sem, e0, e1, e2, e3, Ent.val]) rfl ⟨_, by rw [dUnhide HN]; rfl, (fun m' p h => by rw [dUnhide HN] at h; cases h), hm⟩
     | true =>
      cases b4 with
      | false =>
        have HN := dHide ((dUnhide HR).no (.inr (.inr (.inr (.inl hb4)))))
        go_wp2
        obtain ⟨e0, e1, e2, e3⟩ := (dUnhide HZ5).set (.int .i64 0) (.int .i64 0) (.bool false) (.string ⟨#[]⟩)
        have hm : Moved pk w ((((w5.setCell ⟨rb, 0, none⟩ (.int .i64 0)).setCell ⟨rb, 1, none⟩ (.int .i64 0)).setCell ⟨rb, 2, none⟩ (.bool false)).setCell ⟨rb, 3, none⟩ (.string ⟨#[]⟩)) := ⟨(dUnhide HD5).set4 (by omega) _ _ _ _, by obtain ⟨y, hy⟩ := dUnhide HM5; exact ⟨y, hy.set4 hrc _ _ _ _⟩⟩
        clear f0 f1 f2 f3 k0 k1 k2 k3
        generalize (((w5.setCell ⟨rb, 0, none⟩ (.int .i64 0)).setCell ⟨rb, 1, none⟩ (.int .i64 0)).setCell ⟨rb, 2, none⟩ (.bool false)).setCell ⟨rb, 3, none⟩ (.string ⟨#[]⟩) = W at *
        refine bodyPost_ret (v := .tuple #[Ent.val ⟨0, 0, false, ⟨#[]⟩⟩, .bool false]) (by simp [results, Try.results41, go_sem, e0, e1, e2, e3, Ent.val]) rfl ⟨_, by rw [dUnhide HN]; rfl, (fun m' p h => by rw [dUnhide HN] at h; cases h), hm⟩
      | true =>
        by_cases h1 : (1 : Int) < (numV o3 : Int)
        · skip
          have HN := dHide ((dUnhide HR).no (.inr (.inr (.inr (.inr (by omega))))))
          go_wp2
          obtain ⟨e0, e1, e2, e3⟩ := (dUnhide HZ5).set (.int .i64 0) (.int .i64 0) (.bool false) (.string ⟨#[]⟩)
          have hm : Moved pk w ((((w5.setCell ⟨rb, 0, none⟩ (.int .i64 0)).setCell ⟨rb, 1, none⟩ (.int .i64 0)).setCell ⟨rb, 2, none⟩ (.bool false)).setCell ⟨rb, 3, none⟩ (.string ⟨#[]⟩)) := ⟨(dUnhide HD5).set4 (by omega) _ _ _ _, by obtain ⟨y, hy⟩ := dUnhide HM5; exact ⟨y, hy.set4 hrc _ _ _ _⟩⟩
          clear f0 f1 f2 f3 k0 k1 k2 k3
          generalize (((w5.setCell ⟨rb, 0, none⟩ (.int .i64 0)).setCell ⟨rb, 1, none⟩ (.int .i64 0)).setCell ⟨rb, 2, none⟩ (.bool false)).setCell ⟨rb, 3, none⟩ (.string ⟨#[]⟩) = W at *
          refine bodyPost_ret (v := .tuple #[Ent.val ⟨0, 0, false, ⟨#[]⟩⟩, .bool false]) (by simp [results, Try.results41, go_sem, e0, e1, e2, e3, Ent.val]) rfl ⟨_, by rw [dUnhide HN]; rfl, (fun m' p h => by rw [dUnhide HN] at h; cases h), hm⟩

        · obtain ⟨q, hq, hz⟩ := (dUnhide HR).yes hb1 hb2 hb3 hb4 (by omega)
          have hfit := (dUnhide HR).fits hb1 hb2 hb3 hb4 hl
          have HPQ : Hid (Plc w5 pk (q : Int)) := by
            obtain ⟨⟨t, k⟩, h4⟩ := Option.isSome_iff_exists.1 hb4
            rw [← hq t k h4]
            exact dUnhide HP5 t k h4
          have e3 : ((numV o3 : Int) == 1) = (numV o3 == 1) := by
            rcases (show numV o3 = 0 ∨ numV o3 = 1 by omega) with h | h
            · rw [h]; rfl
            · rw [h]; rfl
          obtain ⟨b, hC, hbz⟩ : ∃ b : Bool, (∀ w, Calls Try.prog 81 #[(entOf (numV o1) (numV o2) (numV o3) (txtV o4)).val] w fun r w' => r = .returned (.bool b) ∧ Below w.heap.size w w') ∧ readZ bs x = if b then some (entOf (numV o1) (numV o2) (numV o3) (txtV o4), q) else none := by
            by_cases he : entP (entOf (numV o1) (numV o2) (numV o3) (txtV o4))
            · rw [entOk_yes he] at hz
              exact ⟨true, implEntOk_yes _ hfit he, hz⟩
            · rw [entOk_no he] at hz
              exact ⟨false, implEntOk_no _ hfit he, hz⟩
          have HC := dHide hC
          have HB := dHide hbz
          clear hq hz hfit hC hbz hb1 hb2 hb3 hb4 HP5 HR HM5 k0 k1 k2 k3 f0 f1 f2 f3 zb
          simp only [entOf, Ent.val] at HC
          generalize numV o1 = n1 at *
          generalize numV o2 = n2 at *
          generalize numV o3 = n3 at *
          generalize txtV o4 = t at *
          go_wp2
          have A6 := Four.new w5 (.int .i64 (n1 : Int)) (.int .i64 (n2 : Int)) (.bool (n3 == 1)) (.string ⟨t.toArray⟩) 66
          have ba : Below w5.heap.size w5 (w5.alloc (.cells #[.int .i64 (n1 : Int), .int .i64 (n2 : Int), .bool (n3 == 1), .string ⟨t.toArray⟩] 66)) := (Below.refl _ _).alloc (Nat.le_refl _) _
          have Z6 := dHide ((dUnhide HZ5).kept ba)
          have D6 := dHide ((dUnhide HD5).trans (Drawn.of_below ba))
          have P6 := dHide ((dUnhide HPQ).below ba)
          have htr : w5.heap.size ≠ rb := by have := dCell_lt (dUnhide HZ5).2.1.1; omega
          clear HZ5 HD5 HPQ ba
          generalize w5.alloc (.cells #[.int .i64 (n1 : Int), .int .i64 (n2 : Int), .bool (n3 == 1), .string ⟨t.toArray⟩] 66) = w6 at *
          generalize w5.heap.size = tb at *
          have HA6 := dHide A6
          have hbr : Below w6.heap.size w6 w6.drew := (Below.refl _ _).drew
          obtain ⟨a0, a1, a2, a3⟩ := A6
          go_region_held3 (fun W => W.cell? ⟨tb, 0, none⟩ = some (.int .i64 (n1 : Int)) ∧ W.cell? ⟨tb, 1, none⟩ = some (.int .i64 (n2 : Int)) ∧ W.cell? ⟨tb, 2, none⟩ = some (.bool (n3 == 1)) ∧ W.cell? ⟨tb, 3, none⟩ = some (.string ⟨t.toArray⟩)) (first | go_keep | exact Four.far4 ⟨q0, q1, q2, q3⟩ htr _ _ _ _)
            (first
              | (go_at_call 81; refine (dUnhide HC _).mono ?_; rintro e w7 ⟨rfl, b7⟩; have b7 := belowThen hbr b7; obtain ⟨q0, q1, q2, q3⟩ := (dUnhide HA6).kept b7; have HZ7 := dHide ((dUnhide Z6).kept b7); obtain ⟨zb, ⟨k0, k1, k2, k3⟩, f0, f1, f2, f3⟩ := dUnhide HZ7; have D7 := dHide ((dUnhide D6).trans (Drawn.of_below b7)); have P7 := dHide ((dUnhide P6).below b7)))
          obtain ⟨e0, e1, e2, e3'⟩ := (dUnhide HZ7).set (.int .i64 (n1 : Int)) (.int .i64 (n2 : Int)) (.bool (n3 == 1)) (.string ⟨t.toArray⟩)
          have D8 := dHide ((dUnhide D7).set4 (b := rb) (by omega) (.int .i64 (n1 : Int)) (.int .i64 (n2 : Int)) (.bool (n3 == 1)) (.string ⟨t.toArray⟩))
          have P8 := dHide ((dUnhide P7).set4 hrc (.int .i64 (n1 : Int)) (.int .i64 (n2 : Int)) (.bool (n3 == 1)) (.string ⟨t.toArray⟩))
          clear k0 k1 k2 k3 f0 f1 f2 f3 q0 q1 q2 q3 a0 a1 a2 a3 HA6 HZ7 D7 P7 Z6 D6 P6 b7 hbr zb HC
          generalize (((w7.setCell ⟨rb, 0, none⟩ (.int .i64 (n1 : Int))).setCell ⟨rb, 1, none⟩ (.int .i64 (n2 : Int))).setCell ⟨rb, 2, none⟩ (.bool (n3 == 1))).setCell ⟨rb, 3, none⟩ (.string ⟨t.toArray⟩) = W at *
          go_wp2
          refine bodyPost_ret (v := .tuple #[Ent.val (entOf n1 n2 n3 t), .bool b]) (by simp [results, Try.results41, go_sem, e0, e1, e2, e3', Ent.val, entOf]) rfl ⟨entOf n1 n2 n3 t, ?_, ?_, dUnhide D8, _, dUnhide P8⟩
          · rw [dUnhide HB]; cases b <;> rfl
          · intro m' p h
            rw [dUnhide HB] at h
            cases b
            · cases h
            · cases h
              exact ⟨rfl, dUnhide P8⟩
end Go.Proofs.Ytognmmmplmideaa
