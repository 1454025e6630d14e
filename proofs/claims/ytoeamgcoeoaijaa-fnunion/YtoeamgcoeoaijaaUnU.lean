/- impl's unionOf, Union. -/
import Derived.Test.YtoeamgcoeoaijaaUnR
import Derived.Test.YtoeamgcoeoaijaaUnS
import Derived.Test.YtoeamgcoeoaijaaUsB
namespace Go.Proofs.Ytoeamgcoeoaijaa
open Go.ChangeShapes Go.WideShapes Go.ChangeAt Go.RowKit
set_option linter.unusedVariables false
set_option linter.unusedSimpArgs false
set_option maxRecDepth 100000

theorem elemP : Elem (α := Nst (List Ent)) 26 89 (.slice none 0 0) 1 24 plCl where
  under := Try.underlying89
  info := by kernel_rfl
  zcells := by kernel_rfl
  pos := by decide
  len := plCl_len
  one := fun a u hu => by
    simp only [plCl, List.mem_cons, List.not_mem_nil, or_false] at hu
    subst hu
    rfl
theorem makeP (n : Nat) (h : n ≤ 1073741824) (w : World) : (Instr.makeSlice 89 (.int .i64 (n : Int)) (.int .i64 (n : Int))).run Try.prog w = .ok (.slice (some ⟨w.heap.size, 0, none⟩) n n) (w.alloc (.cells (madeCells (Value.slice none 0 0).cells (n * 1)) 26)) := by
  obtain ⟨i0, hi, hz0, hz1, hz2⟩ := info_parts (elemP).info
  have := run_make (P := Try.prog) w 89 26 i0 _ Try.underlying89 hi hz0 .i64 .i64 (n : Int) (n : Int) (by omega) (by omega) (by rw [hz2]; omega) (by omega)
  rw [hz1] at this
  simpa using this
def zeroPl : Nst (List Ent) := ⟨none, 0, []⟩
theorem zeroPl_cells : ∀ (j : Nat) (u : Value), (plCl zeroPl)[j]? = some u → (Value.slice none 0 0).cells[j]? = some u := by
  have e : (Value.slice none 0 0).cells = #[.slice none 0 0] := by kernel_rfl
  intro j u hu
  rw [e]
  have : (plCl zeroPl) = [.slice none 0 0] := rfl
  rw [this] at hu
  simpa using hu
/-- A store's kept list. -/
def plOf (p : Ps) : Nst (List Ent) := ⟨p.ka, p.kc, p.m.kept⟩
/-- What unionOf answers. -/
def AnsU (b0 : Nat) (ms : List St) (e : Ending) (w' : World) : Prop := ∃ u b, e = .returned (.tuple #[u, .bool b]) ∧ ApE w' b0 u (unM ms) ∧ (b = true ↔ ∀ m ∈ ms, stP m)
theorem psVal_kept {p : Ps} {W : World} (h : RdStore (psVal p) p.m W) : Rw 4 Ent.cl W (.slice p.ka p.m.kept.length p.kc) p.m.kept := by
  obtain ⟨kv, lv, e, h1, -⟩ := h
  simp [psVal] at e
  obtain ⟨rfl, rfl⟩ := e
  exact h1
set_option maxHeartbeats 4000000 in
theorem unionOf_any (v : Value) (ms : List St) (w : World) (hv : RdStoreS v ms w) (hf : ∀ m ∈ ms, fitS m) (hl : ms.length + sumQ (kepts ms) ≤ 1048576) :
    Calls Try.prog 39 #[v] w fun e w' => AnsU w.heap.size ms e w' ∧ Below w.heap.size w w' := by
  have ba : ∀ (w : World) o, Below w.heap.size w (w.alloc o) := fun w o => (Below.refl _ _).alloc (Nat.le_refl _) o
  have EY := dHide (unM_yes (ms := ms))
  have EN := dHide (unM_no (ms := ms))
  obtain ⟨rs, rfl, hr, hn⟩ := hv
  have hlen : rs.length ≤ 1048576 := by rw [List.length_map] at hl; omega
  have HV := dHide fun W (hb : Below w.heap.size w W) => hr.below hb
  have CS := dHide fun k (hk : k < rs.length) W (hb : Below w.heap.size w W) => implStoreOk_any (psVal rs[k]) rs[k].m W ((hn _ (List.getElem_mem hk)).below hb) (hf _ (List.mem_map.2 ⟨_, List.getElem_mem hk, rfl⟩))
  have HBAD : Hid (∀ k (hk : k < rs.length), ¬ stP rs[k].m → ∀ W, AnsU w.heap.size (rs.map Ps.m) (.returned (.tuple #[.slice none 0 0, .bool false])) W) := fun k hk h W => by
    have hno : ¬ ∀ m ∈ rs.map Ps.m, stP m := fun h' => h (h' _ (List.mem_map.2 ⟨_, List.getElem_mem hk, rfl⟩))
    exact ⟨_, _, rfl, .inl ⟨dUnhide EN hno, _, rfl⟩, ⟨fun h => (by cases h), fun h => absurd h hno⟩⟩
  have HGOOD : Hid ((∀ k (hk : k < rs.length), stP rs[k].m) → mrgA ((rs.map plOf).map Nst.m) = unM (rs.map Ps.m) ∧ ∀ m ∈ rs.map Ps.m, stP m) := fun h => by
    have hall : ∀ m ∈ rs.map Ps.m, stP m := fun m hm => by
      obtain ⟨p, hp, rfl⟩ := List.mem_map.1 hm
      obtain ⟨i, hi, rfl⟩ := List.getElem_of_mem hp
      exact h i hi
    refine ⟨?_, hall⟩
    rw [dUnhide EY hall]
    have e : (rs.map plOf).map Nst.m = kepts (rs.map Ps.m) := by simp [kepts, plOf]
    rw [e]
    refine mrgA_unL fun l hl => ?_
    obtain ⟨m, hm, rfl⟩ := List.mem_map.1 hl
    exact (ascE_iff _).1 (hall m hm).2.2.1
  have CM : Hid (∀ W, Below w.heap.size w W → ∀ f : Nat → Nst (List Ent), RowG 1 plCl W w.heap.size 0 rs.length f → (∀ i (h : i < rs.length), f i = plOf rs[i]) → Calls Try.prog 64 #[.slice (some ⟨w.heap.size, 0, none⟩) rs.length rs.length] W fun e w' => (∃ o, e = .returned o ∧ ApE w' W.heap.size o (mrgA ((rs.map plOf).map Nst.m))) ∧ Below W.heap.size W w') := fun W hb f hR hF => by
    have hl1 : (rs.map plOf).length = rs.length := by simp
    have q := hR.own (es := rs.map plOf) (base := w.heap.size) (cap := rs.length) hl1.symm (fun i hi => by rw [List.getElem_map]; exact hF i (by omega)) (Nat.le_refl _) (by omega) (by omega)
    rw [hl1] at q
    refine mergeAll_any _ _ (rs.map plOf) W rfl ⟨q.rw, fun p hp => ?_⟩ (by omega) ?_
    · obtain ⟨p', hp', rfl⟩ := List.mem_map.1 hp
      exact (psVal_kept (hn p' hp')).below hb
    · have e : (rs.map plOf).map Nst.m = kepts (rs.map Ps.m) := by simp [kepts, plOf]
      rw [e]
      rw [List.length_map] at hl
      omega
  obtain ⟨h0, a, cap, rfl, -, -⟩ := hr
  have hmk := makeP rs.length (by omega)
  have R0 : RowG 1 plCl (w.alloc (.cells (madeCells #[.slice none 0 0] rs.length) 26)) w.heap.size 0 rs.length (fun _ => zeroPl) := by
    have q := RowG.made (sz := 1) w (Value.slice none 0 0).cells rs.length 26 zeroPl rfl zeroPl_cells
    rw [Nat.mul_one] at q
    exact q
  generalize mrgA ((rs.map plOf).map Nst.m) = MG at *
  clear hn hf hl EY EN
  go_enter Try.func39, Try.ntmps39
  go_wp2
  go_loopw [12] (fun x wr => ∃ (k : Nat) (f : Nat → Nst (List Ent)), x = .int .i64 (k : Int) ∧ k ≤ rs.length ∧ Hid (RowG 1 plCl wr w.heap.size 0 rs.length f ∧ ∀ i (h : i < rs.length), i < k → f i = plOf rs[i]) ∧ Hid (∀ i (h : i < rs.length), i < k → stP rs[i].m) ∧ w.heap.size < wr.heap.size ∧ Below w.heap.size w wr) (fun x _ => rs.length - (intOf x).toNat)
  case atStart => exact ⟨0, fun _ => zeroPl, rfl, Nat.zero_le _, ⟨R0, fun i h h' => by omega⟩, fun i h h' => by omega, by simp, (Below.refl _ _).alloc (Nat.le_refl _) _⟩
  case round =>
    obtain ⟨k, f, rfl, hk, hz, hinv, hsz, hb⟩ := hrel
    clear R0
    by_cases hlt : (k : Int) < (rs.length : Int)
    · have hkl : k < rs.length := by omega
      obtain ⟨b, off, rfl, hc⟩ := (dUnhide HV wr hb).ps hkl
      obtain ⟨c0, c1, c2⟩ := hc k hkl
      have CSk := dHide (dUnhide CS k hkl)
      have GN := dHide (dUnhide HBAD k hkl)
      have GY : Hid (stP rs[k].m → ∀ i (h : i < rs.length), i < k + 1 → stP rs[i].m) := fun he i h h' => by
        rcases Nat.lt_or_ge i k with hlt' | hge
        · exact dUnhide hinv i h hlt'
        · obtain rfl : i = k := by omega
          exact he
      have ST : Hid (∀ w2, Below wr.heap.size wr w2 → (w2.cell? ⟨w.heap.size, k, none⟩ = some (.slice (f k).a (f k).m.length (f k).c) ∧ w2.frozen? ⟨w.heap.size, k, none⟩ = false) ∧ RowG 1 plCl (w2.setCell ⟨w.heap.size, k, none⟩ (.slice rs[k].ka rs[k].m.kept.length rs[k].kc)) w.heap.size 0 rs.length (putG f k (plOf rs[k])) ∧ ∀ i (h : i < rs.length), i < k + 1 → putG f k (plOf rs[k]) i = plOf rs[i]) := fun w2 hb2 => by
        have R := (dUnhide hz).1.below hb2
        have q := R k hkl 0 _ rfl
        have r := R.put plCl_len hkl 0 (by decide) (.slice rs[k].ka rs[k].m.kept.length rs[k].kc) (plOf rs[k]) rfl
        simp only [Nat.zero_add, Nat.mul_one, Nat.add_zero] at q r
        refine ⟨q, r, fun i h h' => ?_⟩
        by_cases e : i = k
        · subst e; exact putG_same _ _ _
        · rw [putG_ne _ _ e]
          exact (dUnhide hz).2 i h (by omega)
      unfold psVal at CSk
      generalize plOf rs[k] = PO at *
      generalize rs[k] = y at *
      obtain ⟨ya, yc, za, zc, m⟩ := y
      simp only at *
      clear hc hinv HBAD hz
      generalize stP m = PP at *
      have X0 := Bx.new wr [.slice ya m.kept.length yc, .slice za m.late.length zc, .int .i64 m.lock] 31
      have B0 := ba wr (.cells #[.slice ya m.kept.length yc, .slice za m.late.length zc, .int .i64 m.lock] 31)
      go_wp2_with fail
      generalize wr.alloc (.cells #[.slice ya m.kept.length yc, .slice za m.late.length zc, .int .i64 m.lock] 31) = w1 at *
      refine (dUnhide CSk _ (belowThen hb B0)).mono ?_
      rintro r w2 ⟨⟨b2, rfl, h2⟩, bl2⟩
      have bl3 := belowThen B0 bl2
      have hb2 := belowThen hb bl3
      have k0 := X0.below bl2 0 _ rfl
      cases b2
      · have e1 := dUnhide GN (fun h => by have := h2.2 h; cases this) w2
        clear GN GY CSk h2 bl2 c0 c1 c2 HGOOD CS HV ST X0 B0 bl3 k0 CM
        go_wp2
        go_returns
        exact ⟨e1, hb2⟩
      · have G := dHide (dUnhide GY (h2.1 rfl))
        obtain ⟨⟨z0, f0⟩, R3⟩ := dUnhide ST w2 bl3
        have HR3 := dHide R3
        have hb3 := dHide (hb2.setCell (p := ⟨w.heap.size, k, none⟩) (Nat.le_refl _) (.slice ya m.kept.length yc))
        have hs3 : w.heap.size < (w2.setCell ⟨w.heap.size, k, none⟩ (.slice ya m.kept.length yc)).heap.size := by simpa using Nat.lt_of_lt_of_le hsz bl3.size
        clear GN GY CSk h2 bl2 c0 c1 c2 ST X0 B0 bl3 R3 hb2
        go_wp2
        go_roundw
        case rel => exact ⟨k + 1, _, by go_num, by omega, dUnhide HR3, G, hs3, dUnhide hb3⟩
        case measure => simp [intOf]; omega
    · obtain ⟨e1, e2⟩ := dUnhide HGOOD fun i hi => dUnhide hinv i hi (by omega)
      have CMk := dHide (dUnhide CM wr hb f (dUnhide hz).1 (fun i h => (dUnhide hz).2 i h (by omega)))
      have HE2 := dHide e2
      clear hinv HGOOD HBAD CS HV CM hz e2
      go_wp2_with fail
      refine (dUnhide CMk).mono ?_
      rintro r w2 ⟨⟨u, rfl, A⟩, b2⟩
      have hb2 := belowThen hb b2
      have A2 := A.mono (base' := w.heap.size) hb.size
      have FIN : Hid (AnsU w.heap.size (rs.map Ps.m) (.returned (.tuple #[u, .bool true])) w2) := ⟨_, _, rfl, by rw [← e1]; exact A2, ⟨fun _ => dUnhide HE2, fun _ => rfl⟩⟩
      clear CMk b2 A A2 e1 HE2
      go_wp2
      go_returns
      exact ⟨dUnhide FIN, hb2⟩
set_option maxHeartbeats 2000000 in
theorem implUnion_any (v : Value) (ms : List St) (w : World) (hv : RdStoreS v ms w) (hf : ∀ m ∈ ms, fitS m) (hl : ms.length + sumQ (kepts ms) ≤ 1048576) :
    Calls Try.prog 9 #[v] w fun e w' => (∃ u, e = .returned u ∧ ApE w' w.heap.size u (unM ms)) ∧ Below w.heap.size w w' := by
  have C := dHide (unionOf_any v ms w hv hf hl)
  clear hf hl
  obtain ⟨a, cap, rfl, -⟩ := formStoreS hv
  clear hv
  go_enter Try.func9, Try.ntmps9
  go_wp2_with fail
  refine (dUnhide C).mono ?_
  rintro r w2 ⟨⟨u, b, rfl, A, -⟩, b2⟩
  clear C
  go_wp2
  go_ret
  exact ⟨⟨_, rfl, A⟩, b2⟩
end Go.Proofs.Ytoeamgcoeoaijaa
