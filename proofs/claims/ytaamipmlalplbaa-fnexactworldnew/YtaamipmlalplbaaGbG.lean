/- Several texts in one: StJ, SitE, StD, SitF, SitG. -/
import Derived.Test.YtaamipmlalplbaaGbE
import Derived.Deep.RegionHeld3
import Derived.Test.YtaamipmlalplbaaGaA
import Derived.Test.YtaamipmlalplbaaGaT
import Derived.Test.YtaamipmlalplbaaGbF
import Derived.Deep.DeepCutAuto
namespace Go.Proofs.Ytaamipmlalplbaa
open Go.ChangeShapes Go.WideShapes Go.ChangeAt Go.RowKit
set_option linter.unusedVariables false
set_option linter.unusedSimpArgs false
set_option maxRecDepth 100000

set_option maxHeartbeats 4000000 in
theorem eqEntryS_yes (u v : Value) (es : List Ent) (w : World) (hu : Rw 4 Ent.cl w u es) (hv : Rw 4 Ent.cl w v es) :
    Calls Try.prog 60 #[u, v] w fun r w' => r = .returned (.bool true) ∧ Below w.heap.size w w' := by
  have HU := dHide fun W (hb : Below w.heap.size w W) => hu.below hb
  have HV := dHide fun W (hb : Below w.heap.size w W) => hv.below hb
  obtain ⟨h0, a, cap, rfl, -, -⟩ := hu
  obtain ⟨h0', a', cap', rfl, -, -⟩ := hv
  go_enter Try.func60, Try.ntmps60
  go_wp2
  go_loopw [5] (fun i wr => ∃ k : Nat, i = .int .i64 (k : Int) ∧ k ≤ es.length ∧ Below w.heap.size w wr) (fun i _ => es.length - (intOf i).toNat)
  case atStart => exact ⟨0, rfl, Nat.zero_le _, Below.refl _ _⟩
  case round =>
    obtain ⟨k, rfl, hk, hb⟩ := hrel
    by_cases hlt : (k : Int) < (es.length : Int)
    · have hkl : k < es.length := by omega
      obtain ⟨b, off, rfl, hc⟩ := (dUnhide HU wr hb).ent hkl
      obtain ⟨b', off', rfl, hc'⟩ := (dUnhide HV wr hb).ent hkl
      have E1 := dHide (hc k hkl)
      have E2 := dHide (hc' k hkl)
      obtain ⟨c0, c1, c2, c3⟩ := hc k hkl
      obtain ⟨e0, e1, e2, e3⟩ := hc' k hkl
      have CE := dHide (eqEntry_same es[k])
      generalize es[k] = y at *
      obtain ⟨yx, yw, yh, yd⟩ := y
      unfold Ent.val at CE
      simp only at *
      clear hc hc' HU HV
      have hbr : Below wr.heap.size wr wr.drew := (Below.refl _ _).drew
      go_wp2_with fail
      go_region_held3 (fun W => (W.cell? ⟨b, off + k * 4, none⟩ = some (.int .i64 yx) ∧ W.cell? ⟨b, off + k * 4 + 1, none⟩ = some (.int .i64 yw) ∧ W.cell? ⟨b, off + k * 4 + 2, none⟩ = some (.bool yh) ∧ W.cell? ⟨b, off + k * 4 + 3, none⟩ = some (.string yd)) ∧ W.cell? ⟨b', off' + k * 4, none⟩ = some (.int .i64 yx) ∧ W.cell? ⟨b', off' + k * 4 + 1, none⟩ = some (.int .i64 yw) ∧ W.cell? ⟨b', off' + k * 4 + 2, none⟩ = some (.bool yh) ∧ W.cell? ⟨b', off' + k * 4 + 3, none⟩ = some (.string yd)) (first | exact ⟨(dUnhide E1).below hb5, (dUnhide E2).below hb5⟩ | go_keep)
        (first
          | (go_at_call 65; refine (dUnhide CE _).mono ?_; rintro r w5 ⟨rfl, b5⟩; have hb5 := belowThen hbr b5))
      all_goals
        go_wp2
        go_roundw
        case rel => exact ⟨k + 1, by go_num, by omega, belowThen hb hb5⟩
        case measure => simp [intOf]; omega
    · clear HU HV
      go_wp2
      go_ret
      exact ⟨rfl, hb⟩
end Go.Proofs.Ytaamipmlalplbaa
namespace Go.Proofs.Ytaamipmlalplbaa
open Go.ChangeShapes Go.WideShapes Go.ChangeAt Go.RowKit
set_option linter.unusedVariables false
set_option linter.unusedSimpArgs false
set_option maxRecDepth 100000

/-- The bytes of the texts of entries. -/
def sumD (es : List Ent) : Nat := (es.map fun e => e.data.size).sum
theorem sumD_take (es : List Ent) (k : Nat) (h : k < es.length) : sumD (es.take (k + 1)) = sumD (es.take k) + es[k].data.size := by
  unfold sumD
  rw [List.take_succ_eq_append_getElem h, List.map_append, List.sum_append, List.map_cons, List.map_nil, List.sum_cons, List.sum_nil, Nat.add_zero]
theorem sumD_le (es : List Ent) (k : Nat) : sumD (es.take k) ≤ sumD es := by
  unfold sumD
  conv => rhs; rw [← List.take_append_drop k es, List.map_append, List.sum_append]
  exact Nat.le_add_right _ _
/-- Texts that are no longer than an int. -/
def txtE (es : List Ent) : Prop := ∀ e ∈ es, e.data.size ≤ 9223372036854775807
/-- In a block of lo .. hi - 1. -/
def RdEntryS (v : Value) (m : List Ent) (W : World) : Prop := Rw 4 Ent.cl W v m
def OwEntryS (lo hi : Nat) (v : Value) (m : List Ent) (W : World) : Prop := OwnRw 4 Ent.cl W lo v m ∧ (m = [] ∨ blockOf v < hi)
def sizEntryS (m : List Ent) : Nat := m.length + sumD m
def cntEntryS (m : List Ent) : Nat := 4 * m.length
/-- A marked entry. -/
def mkEnt (k : Nat) : Ent := ⟨((k : Nat) : Int), ((k + 1 : Nat) : Int), ((k + 2) % 3 == 0), markT (k + 3)⟩
def mkEntryS (k : Nat) (m : List Ent) : List Ent := (List.range m.length).map fun i => mkEnt (k + 4 * i)
theorem mkEntryS_len (k : Nat) (m : List Ent) : (mkEntryS k m).length = m.length := by simp [mkEntryS]
theorem mkEntryS_at (k : Nat) (m : List Ent) (i : Nat) (h : i < (mkEntryS k m).length) : (mkEntryS k m)[i] = mkEnt (k + 4 * i) := by simp [mkEntryS]
theorem OwEntryS.rd {lo hi : Nat} {v : Value} {m : List Ent} {W : World} (h : OwEntryS lo hi v m W) : RdEntryS v m W := OwnRw.rw h.1
theorem RdEntryS.below {v : Value} {m : List Ent} {W W' : World} (h : RdEntryS v m W) (b : Below W.heap.size W W') : RdEntryS v m W' := Rw.below h b
theorem formEntryS {v : Value} {m : List Ent} {W : World} (h : RdEntryS v m W) : ∃ a cap, v = .slice a m.length cap ∧ m.length ≤ 9223372036854775807 := by
  obtain ⟨h0, a, cap, rfl, -, -⟩ := h
  exact ⟨a, cap, rfl, h0⟩
theorem OwEntryS.sits {lo hi : Nat} {w : World} {v : Value} {m : List Ent} (h : OwEntryS lo hi v m w) (hf : hi ≤ w.heap.size) : Sits (OwEntryS lo hi v m) lo hi w := by
  refine ⟨hf, fun W hW => ⟨?_, h.2⟩⟩
  obtain ⟨⟨h0, a, cap, rfl, hcap, h⟩, hl⟩ := h
  refine ⟨h0, a, cap, rfl, hcap, ?_⟩
  rcases hl with hl | hl
  · exact .inl hl
  · rcases h with h | ⟨b, off, rfl, hb, hc⟩
    · exact .inl h
    · have e := hW b hb hl
      exact .inr ⟨b, off, rfl, hb, fun i hi j u hu => ⟨(World.cell?_of_block (a := ⟨b, off + i * 4 + j, none⟩) e).trans (hc i hi j u hu).1, (World.frozen?_of_block (a := ⟨b, off + i * 4 + j, none⟩) e).trans (hc i hi j u hu).2⟩⟩
theorem OwnRw.lt {w : World} {base : Nat} {v : Value} {m : List Ent} (h : OwnRw 4 Ent.cl w base v m) : m = [] ∨ blockOf v < w.heap.size := by
  obtain ⟨-, a, cap, rfl, -, h⟩ := h
  rcases h with h | ⟨b, off, rfl, hb, hc⟩
  · exact .inl h
  · rcases Nat.eq_zero_or_pos m.length with h1 | h1
    · exact .inl (List.length_eq_zero_iff.1 h1)
    · exact .inr (dCell_lt (hc 0 h1 0 _ rfl).1)
theorem OwnRw.ge {w : World} {base : Nat} {v : Value} {m : List Ent} (h : OwnRw 4 Ent.cl w base v m) : m = [] ∨ base ≤ blockOf v := by
  obtain ⟨-, a, cap, rfl, -, h⟩ := h
  rcases h with h | ⟨b, off, rfl, hb, hc⟩
  · exact .inl h
  · exact .inr hb
theorem OwnRw.sits {w : World} {base : Nat} {v : Value} {m : List Ent} (h : OwnRw 4 Ent.cl w base v m) : Sits (OwEntryS base w.heap.size v m) base w.heap.size w := OwEntryS.sits ⟨h, h.lt⟩ (Nat.le_refl _)
theorem cntEntryS_le {m : List Ent} (h : sizEntryS m ≤ 1048576) : cntEntryS m ≤ 4194304 := by unfold sizEntryS at h; unfold cntEntryS; omega
theorem eqEntryS_ (u v : Value) (m : List Ent) (w : World) (hu : RdEntryS u m w) (hv : RdEntryS v m w) :
    Calls Try.prog 60 #[u, v] w fun e w' => e = .returned (.bool true) ∧ Below w.heap.size w w' := eqEntryS_yes u v m w hu hv
theorem Wr.set {lo hi b o : Nat} {w wr : World} (h : Wr lo hi w wr) (h1 : lo ≤ b) (h2 : b < hi) (u : Value) : Wr lo hi w (wr.setCell ⟨b, o, none⟩ u) :=
  h.trans ⟨rfl, rfl, rfl, by simp, fun k hk hn => Below.heap_setCell _ _ _ k (fun e => by simp at e; omega)⟩
set_option maxHeartbeats 4000000 in
theorem markEntryS_ (lo hi : Nat) (v : Value) (m : List Ent) (k0 : Nat) (w : World) (hk : k0 ≤ 1073741824) (hl : cntEntryS m ≤ 1073741824) (h : Sits (OwEntryS lo hi v m) lo hi w) :
    Calls Try.prog 49 #[v, .int .i64 (k0 : Int)] w fun e w' => e = .returned (.int .i64 ((k0 + cntEntryS m : Nat) : Int)) ∧ Sits (OwEntryS lo hi v (mkEntryS k0 m)) lo hi w' ∧ Wr lo hi w w' := by
  obtain ⟨hO, hB⟩ := h.now
  have hfit := h.fit
  have hlen : m.length ≤ 268435456 := by unfold cntEntryS at hl; omega
  obtain ⟨a, cap, rfl, -⟩ := formEntryS (OwnRw.rw hO)
  have hcap : m.length ≤ cap ∧ cap ≤ 9223372036854775807 := by obtain ⟨-, a', c', e, q, -⟩ := hO; cases e; exact q
  rcases Nat.eq_zero_or_pos m.length with h0 | h0
  · have hm : m = [] := List.length_eq_zero_iff.1 h0
    subst hm
    have e1 : mkEntryS k0 [] = [] := rfl
    have e2 : k0 + cntEntryS [] = k0 := rfl
    rw [e1, e2]
    clear hl hO hB e1 e2
    go_enter Try.func49, Try.ntmps49
    go_wp2
    go_rounds 1
    go_ret
    exact ⟨rfl, h, Wr.refl _ _ _⟩
  · obtain ⟨b, off, rfl, hb1, Z0⟩ := hO.rowZ h0
    have hb2 : b < hi := by
      rcases hB with h | h
      · rw [h] at h0; simp at h0
      · exact h
    have FIN : Hid (∀ (W : World) (f : Nat → Ent), RowZ W b off m.length f → (∀ i, i < m.length → f i = mkEnt (k0 + 4 * i)) → hi ≤ W.heap.size → Sits (OwEntryS lo hi (.slice (some ⟨b, off, none⟩) m.length cap) (mkEntryS k0 m)) lo hi W) := fun W f hz hf hW => by
      have hl := mkEntryS_len k0 m
      have q := hz.own (es := mkEntryS k0 m) (base := lo) (cap := cap) hl.symm (fun i hi => by rw [mkEntryS_at]; exact hf i (by omega)) hb1 (by omega) (by omega)
      rw [hl] at q
      exact OwEntryS.sits ⟨q, .inr hb2⟩ hW
    have hcn : Hid (k0 + cntEntryS m = k0 + 4 * m.length) := rfl
    have HZ0 := dHide Z0
    clear h hO hB Z0
    go_enter Try.func49, Try.ntmps49
    go_wp2
    go_loopw [5, 1] (fun x y wr => ∃ (k K : Nat) (f : Nat → Ent), x = .int .i64 (k : Int) ∧ y = .int .i64 (K : Int) ∧ k ≤ m.length ∧ Hid (K = k0 + 4 * k) ∧ Hid (RowZ wr b off m.length f ∧ ∀ i, i < k → f i = mkEnt (k0 + 4 * i)) ∧ Hid (Wr lo hi w wr) ∧ hi ≤ wr.heap.size) (fun x _ _ => m.length - (intOf x).toNat)
    case atStart => exact ⟨0, k0, _, rfl, rfl, Nat.zero_le _, rfl, ⟨dUnhide HZ0, fun i h => by omega⟩, Wr.refl _ _ _, hfit⟩
    case round =>
      obtain ⟨k, K, f, rfl, rfl, hkk, hK, hz, hw, hhi⟩ := hrel
      by_cases hlt : (k : Int) < (m.length : Int)
      · have hkl : k < m.length := by omega
        have hKb : K ≤ 2147483648 := by have := dUnhide hK; omega
        obtain ⟨z0, f0⟩ := (dUnhide hz).1 k hkl 0 _ rfl
        obtain ⟨z1, f1⟩ := (dUnhide hz).1 k hkl 1 _ rfl
        obtain ⟨z2, f2⟩ := (dUnhide hz).1 k hkl 2 _ rfl
        obtain ⟨z3, f3⟩ := (dUnhide hz).1 k hkl 3 _ rfl
        simp only [Nat.add_zero] at z0 f0
        have CT := dHide fun W => markText_any (K + 3) (by omega) (by omega) W
        have e3 : ((K + 3 : Nat) : Int) = (K : Int) + 1 + 1 + 1 := by omega
        rw [e3] at CT
        have Z3 := (((dUnhide hz).1.pl hkl (K : Int)).wave hkl ((K : Int) + 1)).hole hkl (((K : Int) + 1 + 1) % 3 == 0)
        simp only [putF_same, putF_twice] at Z3
        have W3 := (((dUnhide hw).set (o := off + k * 4) hb1 hb2 (.int .i64 (K : Int))).set (o := off + k * 4 + 1) hb1 hb2 (.int .i64 ((K : Int) + 1))).set (o := off + k * 4 + 2) hb1 hb2 (.bool (((K : Int) + 1 + 1) % 3 == 0))
        have s3 : hi ≤ (((wr.setCell ⟨b, off + k * 4, none⟩ (.int .i64 (K : Int))).setCell ⟨b, off + k * 4 + 1, none⟩ (.int .i64 ((K : Int) + 1))).setCell ⟨b, off + k * 4 + 2, none⟩ (.bool (((K : Int) + 1 + 1) % 3 == 0))).heap.size := by simpa using hhi
        have HW3 := dHide W3
        have HZ3 := dHide Z3
        have HF : Hid (∀ i, i < k → f i = mkEnt (k0 + 4 * i)) := (dUnhide hz).2
        clear e3 Z3 W3 hz hw
        go_wp2_with fail
        generalize (((wr.setCell ⟨b, off + k * 4, none⟩ (.int .i64 (K : Int))).setCell ⟨b, off + k * 4 + 1, none⟩ (.int .i64 ((K : Int) + 1))).setCell ⟨b, off + k * 4 + 2, none⟩ (.bool (((K : Int) + 1 + 1) % 3 == 0))) = V at *
        refine (dUnhide CT _).mono ?_
        rintro r w2 ⟨rfl, b2⟩
        have Z4 := (dUnhide HZ3).below b2
        obtain ⟨z3', f3'⟩ := Z4 k hkl 3 _ rfl
        have Z5 := Z4.data hkl (markT (K + 3))
        simp only [putF_same, putF_twice] at Z5
        have W5 := dHide (((dUnhide HW3).trans (Wr.of_below b2)).set (o := off + k * 4 + 3) hb1 hb2 (.string (markT (K + 3))))
        have s5 : hi ≤ w2.heap.size := Nat.le_trans s3 b2.size
        have HZ5 : Hid (RowZ (w2.setCell ⟨b, off + k * 4 + 3, none⟩ (.string (markT (K + 3)))) b off m.length (putF f k (mkEnt (k0 + 4 * k)))) := by
          have e : mkEnt (k0 + 4 * k) = ⟨(K : Int), (K : Int) + 1, (((K : Int) + 1 + 1) % 3 == 0), markT (K + 3)⟩ := by
            rw [← dUnhide hK]
            unfold mkEnt
            have e1 : ((K + 1 : Nat) : Int) = (K : Int) + 1 := by omega
            have e2 : ((K + 2) % 3 == 0) = (((K : Int) + 1 + 1) % 3 == 0) := by
              by_cases h : (K + 2) % 3 = 0
              · have h' : ((K : Int) + 1 + 1) % 3 = 0 := by omega
                rw [h, h']; rfl
              · have h' : ¬ ((K : Int) + 1 + 1) % 3 = 0 := by omega
                rw [beq_eq_false_iff_ne.2 h, beq_eq_false_iff_ne.2 h']
            rw [e1, e2]
          rw [e]
          exact Z5
        have HF2 : Hid (∀ i, i < k + 1 → putF f k (mkEnt (k0 + 4 * k)) i = mkEnt (k0 + 4 * i)) := fun i h => by
          unfold putF
          split
          · rename_i e; subst e; rfl
          · rename_i e; exact dUnhide HF i (by omega)
        have hK2 : Hid (K + 4 = k0 + 4 * (k + 1)) := by rw [Hid, dUnhide hK]; omega
        simp only [putF_same] at z3'
        clear CT b2 Z4 Z5 HZ3 HW3 HF s3 z0 z1 z2 z3 f0 f1 f2 f3 hK hhi
        generalize markT (K + 3) = MT at *
        go_wp2
        go_roundw
        case rel => exact ⟨k + 1, K + 4, _, by go_num, by go_num, by omega, hK2, ⟨dUnhide HZ5, dUnhide HF2⟩, W5, by simpa using s5⟩
        case measure => simp [intOf]; omega
      · have e1 : k = m.length := by omega
        have e2 : Hid ((K : Int) = ((k0 + cntEntryS m : Nat) : Int)) := by rw [Hid, dUnhide hK, dUnhide hcn, e1]
        have O := dHide (dUnhide FIN wr f (dUnhide hz).1 (fun i hi => (dUnhide hz).2 i (by omega)) hhi)
        clear hz hK FIN HZ0 hcn
        go_wp2
        go_ret
        exact ⟨by have e := dUnhide e2; simp only [Int.natCast_add] at e; simp [e], dUnhide O, dUnhide hw⟩
end Go.Proofs.Ytaamipmlalplbaa
namespace Go.Proofs.Ytaamipmlalplbaa
open Go.ChangeShapes Go.WideShapes Go.ChangeAt Go.RowKit
set_option linter.unusedVariables false
set_option linter.unusedSimpArgs false
set_option maxRecDepth 100000

/-- Entries that may be appended to. -/
abbrev ApE (w : World) (base : Nat) (v : Value) (es : List Ent) : Prop := ApR 97 4 Ent.cl w base v es
/-- A store whose lists may be appended to. -/
def OwS (w : World) (base : Nat) (v : Value) (s : St) : Prop := ∃ kv lv, v = .agg #[kv, lv, .int .i64 s.lock] ∧ ApE w base kv s.kept ∧ ApE w base lv s.late ∧ (touch kv = none ∨ touch kv ≠ touch lv)
theorem OwS.rs {w : World} {base : Nat} {v : Value} {s : St} (h : OwS w base v s) : Rs w v s := by
  obtain ⟨kv, lv, h1, h2, h3, -⟩ := h
  exact ⟨kv, lv, h1, (ApR.own elemE h2).rw, (ApR.own elemE h3).rw⟩
theorem OwS.below {w w' : World} {base : Nat} {v : Value} {s : St} (h : OwS w base v s) (hb : Below w.heap.size w w') : OwS w' base v s := by
  obtain ⟨kv, lv, h1, h2, h3, h4⟩ := h
  exact ⟨kv, lv, h1, h2.below hb, h3.below hb, h4⟩
theorem OwS.mono {w : World} {base base' : Nat} {v : Value} {s : St} (h : OwS w base v s) (hb : base' ≤ base) : OwS w base' v s := by
  obtain ⟨kv, lv, h1, h2, h3, h4⟩ := h
  exact ⟨kv, lv, h1, h2.mono hb, h3.mono hb, h4⟩
end Go.Proofs.Ytaamipmlalplbaa
namespace Go.Proofs.Ytaamipmlalplbaa
open Go.ChangeShapes Go.WideShapes Go.ChangeAt Go.RowKit
set_option linter.unusedVariables false
set_option linter.unusedSimpArgs false
set_option maxRecDepth 100000

set_option maxHeartbeats 4000000 in
theorem heldEntryS_ (v : Value) (m : List Ent) (k0 : Nat) (w : World) (hk : k0 ≤ 1073741824) (hl : cntEntryS m ≤ 1073741824) (h : RdEntryS v (mkEntryS k0 m) w) :
    Calls Try.prog 55 #[v, .int .i64 (k0 : Int)] w fun e w' => e = .returned (.int .i64 ((k0 + cntEntryS m : Nat) : Int)) ∧ Below w.heap.size w w' := by
  have HV := dHide fun W (hb : Below w.heap.size w W) => RdEntryS.below h hb
  obtain ⟨a, cap, rfl, -⟩ := formEntryS h
  have hlen : m.length ≤ 268435456 := by unfold cntEntryS at hl; omega
  have hcn : Hid (k0 + cntEntryS m = k0 + 4 * m.length) := rfl
  have HLN := dHide (mkEntryS_len k0 m)
  rw [mkEntryS_len] at HV
  rw [mkEntryS_len]
  clear h
  go_enter Try.func55, Try.ntmps55
  go_wp2
  go_loopw [5, 1] (fun x y wr => ∃ k K : Nat, x = .int .i64 (k : Int) ∧ y = .int .i64 (K : Int) ∧ k ≤ m.length ∧ Hid (K = k0 + 4 * k) ∧ Below w.heap.size w wr) (fun x _ _ => m.length - (intOf x).toNat)
  case atStart => exact ⟨0, k0, rfl, rfl, Nat.zero_le _, rfl, Below.refl _ _⟩
  case round =>
    obtain ⟨k, K, rfl, rfl, hkk, hK, hb⟩ := hrel
    by_cases hlt : (k : Int) < (m.length : Int)
    · have hkl : k < (mkEntryS k0 m).length := by rw [dUnhide HLN]; omega
      have hKb : K ≤ 2147483648 := by have := dUnhide hK; omega
      obtain ⟨b, off, rfl, hc⟩ := Rw.ent (dUnhide HV wr hb) hkl
      have E1 := hc k hkl
      rw [mkEntryS_at, ← dUnhide hK] at E1
      have HE := dHide E1
      obtain ⟨c0, c1, c2, c3⟩ := E1
      have e1 : ((K + 1 : Nat) : Int) = (K : Int) + 1 := by omega
      have e2 : ((K + 2) % 3 == 0) = (((K : Int) + 1 + 1) % 3 == 0) := by
        by_cases h : (K + 2) % 3 = 0
        · have h' : ((K : Int) + 1 + 1) % 3 = 0 := by omega
          rw [h, h']; rfl
        · have h' : ¬ ((K : Int) + 1 + 1) % 3 = 0 := by omega
          rw [beq_eq_false_iff_ne.2 h, beq_eq_false_iff_ne.2 h']
      unfold mkEnt at c0 c1 c2 c3
      simp only at c0 c1 c2 c3
      rw [e1] at c1
      rw [e2] at c2
      have CT := dHide fun W => markText_any (K + 3) (by omega) (by omega) W
      have e3 : ((K + 3 : Nat) : Int) = (K : Int) + 1 + 1 + 1 := by omega
      rw [e3] at CT
      have HC3 : Hid (∀ W, Below wr.heap.size wr W → W.cell? ⟨b, off + k * 4 + 3, none⟩ = some (.string (markT (K + 3)))) := fun W hB => ((dUnhide HE).below hB).2.2.2
      have hK2 : Hid (K + 4 = k0 + 4 * (k + 1)) := by rw [Hid, dUnhide hK]; omega
      generalize markT (K + 3) = MT at *
      have hbr : Below wr.heap.size wr wr.drew := (Below.refl _ _).drew
      clear hc e1 e2 e3 HE HV hK hkl
      go_wp2_with fail
      go_region_held3 (fun W => W.cell? ⟨b, off + k * 4 + 3, none⟩ = some (.string MT)) (first | exact dUnhide HC3 _ hb5 | go_keep)
        (first
          | (go_at_call 54; refine (dUnhide CT _).mono ?_; rintro r w5 ⟨rfl, b5⟩; have hb5 := belowThen hbr b5; have q3 := dUnhide HC3 _ hb5))
      all_goals
        go_wp2
        go_roundw
        case rel => exact ⟨k + 1, K + 4, by go_num, by go_num, by omega, hK2, belowThen hb hb5⟩
        case measure => simp [intOf]; omega
    · have e1 : k = m.length := by omega
      have e2 : Hid ((K : Int) = ((k0 + cntEntryS m : Nat) : Int)) := by rw [Hid, dUnhide hK, dUnhide hcn, e1]
      clear hK HV hcn
      go_wp2
      go_ret
      exact ⟨by have e := dUnhide e2; simp only [Int.natCast_add] at e; simp [e], hb⟩

def RdStore (v : Value) (m : St) (W : World) : Prop := Rs W v m
def OwStore (lo hi : Nat) (v : Value) (m : St) (W : World) : Prop := ∃ kv lv, v = .agg #[kv, lv, .int .i64 m.lock] ∧ OwEntryS lo hi kv m.kept W ∧ OwEntryS lo hi lv m.late W ∧ (m.kept = [] ∨ m.late = [] ∨ blockOf kv ≠ blockOf lv)
def sizStore (m : St) : Nat := sizEntryS m.kept + sizEntryS m.late
def cntStore (m : St) : Nat := cntEntryS m.kept + cntEntryS m.late
def mkStore (k : Nat) (m : St) : St := ⟨mkEntryS k m.kept, mkEntryS (k + cntEntryS m.kept) m.late, m.lock⟩
theorem OwStore.rd {lo hi : Nat} {v : Value} {m : St} {W : World} (h : OwStore lo hi v m W) : RdStore v m W := by
  obtain ⟨kv, lv, h1, h2, h3, -⟩ := h
  exact ⟨kv, lv, h1, h2.rd, h3.rd⟩
theorem RdStore.below {v : Value} {m : St} {W W' : World} (h : RdStore v m W) (b : Below W.heap.size W W') : RdStore v m W' := Rs.below h b
theorem formStore {v : Value} {m : St} {W : World} (h : RdStore v m W) : ∃ ka kc la lc, v = .agg #[.slice ka m.kept.length kc, .slice la m.late.length lc, .int .i64 m.lock] ∧ m.kept.length ≤ 9223372036854775807 ∧ m.late.length ≤ 9223372036854775807 := by
  obtain ⟨kv, lv, rfl, h2, h3⟩ := h
  obtain ⟨ka, kc, rfl, e1⟩ := formEntryS h2
  obtain ⟨la, lc, rfl, e2⟩ := formEntryS h3
  exact ⟨ka, kc, la, lc, rfl, e1, e2⟩
theorem OwStore.sits {lo hi : Nat} {w : World} {v : Value} {m : St} (h : OwStore lo hi v m w) (hf : hi ≤ w.heap.size) : Sits (OwStore lo hi v m) lo hi w := by
  obtain ⟨kv, lv, h1, h2, h3, h4⟩ := h
  have s2 := h2.sits hf
  have s3 := h3.sits hf
  exact ⟨hf, fun W hW => ⟨kv, lv, h1, s2.all W hW, s3.all W hW, h4⟩⟩
theorem cntStore_le {m : St} (h : sizStore m ≤ 1048576) : cntStore m ≤ 8388608 := by
  unfold sizStore at h
  have h1 := cntEntryS_le (m := m.kept) (by omega)
  have h2 := cntEntryS_le (m := m.late) (by omega)
  unfold cntStore
  omega
/-- Texts of a store. -/
def txtS (m : St) : Prop := txtE m.kept ∧ txtE m.late
/-- What spec's and impl's stores leave is such a store. -/
theorem OwS.sits {w : World} {base : Nat} {v : Value} {s : St} (h : OwS w base v s) : Sits (OwStore base w.heap.size v s) base w.heap.size w := by
  obtain ⟨kv, lv, h1, h2, h3, h4⟩ := h
  have o2 := ApR.own elemE h2
  have o3 := ApR.own elemE h3
  refine OwStore.sits ⟨kv, lv, h1, ⟨o2, o2.lt⟩, ⟨o3, o3.lt⟩, ?_⟩ (Nat.le_refl _)
  by_cases hk : s.kept = []
  · exact .inl hk
  · by_cases hl : s.late = []
    · exact .inr (.inl hl)
    · right; right
      have tb : ∀ {u : Value} {ms : List Ent}, ApE w base u ms → ms ≠ [] → touch u = some (blockOf u) := fun {u ms} hu hm => by
        rcases hu with ⟨h, -⟩ | hu
        · exact absurd h hm
        · rcases hu.2 with ⟨-, h0⟩ | ⟨g, cap, cur, rfl, -, -, hnc, -⟩
          · exact absurd (List.length_eq_zero_iff.1 h0) hm
          · have : ms.length ≠ 0 := fun e => hm (List.length_eq_zero_iff.1 e)
            have hc : cap ≠ 0 := by omega
            simp [touch, hc, blockOf]
      have t1 := tb h2 hk
      have t2 := tb h3 hl
      intro e
      rcases h4 with h4 | h4
      · rw [t1] at h4; cases h4
      · exact h4 (by rw [t1, t2, e])
end Go.Proofs.Ytaamipmlalplbaa
namespace Go.Proofs.Ytaamipmlalplbaa
open Go.ChangeShapes Go.WideShapes Go.ChangeAt Go.RowKit
set_option linter.unusedVariables false
set_option linter.unusedSimpArgs false
set_option maxRecDepth 100000

theorem OwnRw.farE {w : World} {base b o : Nat} {v : Value} {m : List Ent} (h : OwnRw 4 Ent.cl w base v m) (hb : b < base) (u : Value) : OwnRw 4 Ent.cl (w.setCell ⟨b, o, none⟩ u) base v m := by
  obtain ⟨h0, a, cap, rfl, hcap, h⟩ := h
  refine ⟨h0, a, cap, rfl, hcap, ?_⟩
  rcases h with h | ⟨b', off, rfl, hb', hc⟩
  · exact .inl h
  · exact .inr ⟨b', off, rfl, hb', fun i hi j u' hu => ⟨set_other (hc i hi j u' hu).1 (.inl (by omega)), (World.frozen?_setCell _ _ _ _).trans (hc i hi j u' hu).2⟩⟩
set_option maxHeartbeats 2000000 in
theorem eqStore_ (u v : Value) (m : St) (w : World) (hu : RdStore u m w) (hv : RdStore v m w) :
    Calls Try.prog 43 #[u, v] w fun e w' => e = .returned (.bool true) ∧ Below w.heap.size w w' := by
  have ba : ∀ (w : World) o, Below w.heap.size w (w.alloc o) := fun w o => (Below.refl _ _).alloc (Nat.le_refl _) o
  obtain ⟨ku, lu, rfl, hku, hlu⟩ := hu
  obtain ⟨kv, lv, rfl, hkv, hlv⟩ := hv
  have C1 := dHide fun W (hb : Below w.heap.size w W) => eqEntryS_ ku kv m.kept W (RdEntryS.below hku hb) (RdEntryS.below hkv hb)
  have C2 := dHide fun W (hb : Below w.heap.size w W) => eqEntryS_ lu lv m.late W (RdEntryS.below hlu hb) (RdEntryS.below hlv hb)
  obtain ⟨ka, kc, rfl, -⟩ := formEntryS hku
  obtain ⟨la, lc, rfl, -⟩ := formEntryS hlu
  obtain ⟨ka', kc', rfl, -⟩ := formEntryS hkv
  obtain ⟨la', lc', rfl, -⟩ := formEntryS hlv
  generalize m.lock = sl at *
  have X0 := (Bx.new w [.slice ka m.kept.length kc, .slice la m.late.length lc, .int .i64 sl] 69).below (ba _ (.cells #[.slice ka' m.kept.length kc', .slice la' m.late.length lc', .int .i64 sl] 69))
  have Y0 := Bx.new (w.alloc (.cells #[.slice ka m.kept.length kc, .slice la m.late.length lc, .int .i64 sl] 69)) [.slice ka' m.kept.length kc', .slice la' m.late.length lc', .int .i64 sl] 69
  have B0 := belowThen (ba w (.cells #[.slice ka m.kept.length kc, .slice la m.late.length lc, .int .i64 sl] 69)) (ba _ (.cells #[.slice ka' m.kept.length kc', .slice la' m.late.length lc', .int .i64 sl] 69))
  have e1 : (w.alloc (.cells #[.slice ka m.kept.length kc, .slice la m.late.length lc, .int .i64 sl] 69)).heap.size = w.heap.size + 1 := by simp
  rw [e1] at Y0
  clear e1 hku hlu hkv hlv
  go_enter Try.func43, Try.ntmps43
  go_wp2_with fail
  generalize (w.alloc (.cells #[.slice ka m.kept.length kc, .slice la m.late.length lc, .int .i64 sl] 69)).alloc (.cells #[.slice ka' m.kept.length kc', .slice la' m.late.length lc', .int .i64 sl] 69) = w0 at *
  refine (dUnhide C1 _ B0).mono ?_
  rintro r w1 ⟨rfl, b1⟩
  have B1 := belowThen B0 b1
  have X1 := X0.below b1
  have Y1 := Y0.below b1
  have k1 := X1 1 _ rfl
  have j1 := Y1 1 _ rfl
  have HX := dHide X1
  have HY := dHide Y1
  clear X0 Y0 B0 b1 C1 X1 Y1
  go_wp2_with fail
  refine (dUnhide C2 _ B1).mono ?_
  rintro r w2 ⟨rfl, b2⟩
  have B2 := belowThen B1 b2
  have k2 := (dUnhide HX).below b2 2 _ rfl
  have j2 := (dUnhide HY).below b2 2 _ rfl
  clear k1 j1 HX HY C2 b2 B1
  go_wp2
  go_ret
  exact ⟨rfl, B2⟩
theorem OwEntryS.wr {lo hi lo' hi' : Nat} {v : Value} {m : List Ent} {w w' : World} (h : OwEntryS lo hi v m w) (hw : Wr lo' hi' w w') (hne : m = [] ∨ blockOf v < lo' ∨ hi' ≤ blockOf v) : OwEntryS lo hi v m w' := by
  have hlt := h.1.lt
  obtain ⟨⟨h0, a, cap, rfl, hcap, h⟩, hl⟩ := h
  refine ⟨⟨h0, a, cap, rfl, hcap, ?_⟩, hl⟩
  rcases hne with hne | hne
  · exact .inl hne
  · rcases h with h | ⟨b', off, rfl, hb, hc⟩
    · exact .inl h
    · rcases hlt with hlt | hlt
      · exact .inl hlt
      · have e := hw.block b' hlt hne
        exact .inr ⟨b', off, rfl, hb, fun i hi j u hu => ⟨(World.cell?_of_block (a := ⟨b', off + i * 4 + j, none⟩) e).trans (hc i hi j u hu).1, (World.frozen?_of_block (a := ⟨b', off + i * 4 + j, none⟩) e).trans (hc i hi j u hu).2⟩⟩
/-- A list of its own block alone. -/
theorem OwEntryS.narrow {lo hi : Nat} {v : Value} {m : List Ent} {w : World} (h : OwEntryS lo hi v m w) (hm : m ≠ []) : OwEntryS (blockOf v) (blockOf v + 1) v m w ∧ lo ≤ blockOf v ∧ blockOf v < hi := by
  have h1 := h.1.ge.resolve_left hm
  have h2 := h.2.resolve_left hm
  refine ⟨⟨?_, .inr (by omega)⟩, h1, h2⟩
  obtain ⟨⟨h0, a, cap, rfl, hcap, h⟩, -⟩ := h
  refine ⟨h0, a, cap, rfl, hcap, ?_⟩
  rcases h with h | ⟨b', off, rfl, hb, hc⟩
  · exact .inl h
  · exact .inr ⟨b', off, rfl, Nat.le_refl _, hc⟩
theorem OwEntryS.wide {lo hi lo' hi' : Nat} {v : Value} {m : List Ent} {w : World} (h : OwEntryS lo hi v m w) (h1 : lo' ≤ lo) (h2 : hi ≤ hi') : OwEntryS lo' hi' v m w := ⟨h.1.mono h1, by rcases h.2 with h | h; exact .inl h; exact .inr (by omega)⟩
/-- Marks go into the list's own block alone. -/
theorem markEntryS_in (lo hi : Nat) (v : Value) (m : List Ent) (k0 : Nat) (w : World) (hk : k0 ≤ 1073741824) (hl : cntEntryS m ≤ 1073741824) (hf : hi ≤ w.heap.size) (h : OwEntryS lo hi v m w) :
    Calls Try.prog 49 #[v, .int .i64 (k0 : Int)] w fun e w' => e = .returned (.int .i64 ((k0 + cntEntryS m : Nat) : Int)) ∧ OwEntryS lo hi v (mkEntryS k0 m) w' ∧ (∃ b1 b2, Wr b1 b2 w w' ∧ ((m = [] ∧ b1 = 0 ∧ b2 = 0) ∨ (m ≠ [] ∧ b1 = blockOf v ∧ b2 = blockOf v + 1))) ∧ Wr lo hi w w' := by
  by_cases hm : m = []
  · subst hm
    refine (markEntryS_ 0 0 v [] k0 w hk hl (OwEntryS.sits ⟨h.1.mono (Nat.zero_le _), .inl rfl⟩ (Nat.zero_le _))).mono ?_
    rintro e w' ⟨rfl, o, d⟩
    have q : OwEntryS lo hi v [] w' := h.wr d (.inl rfl)
    exact ⟨rfl, q, ⟨0, 0, d, .inl ⟨rfl, rfl, rfl⟩⟩, ⟨d.os, d.tape, d.output, d.size, fun k hk _ => d.block k hk (.inr (Nat.zero_le _))⟩⟩
  · obtain ⟨hn, h1, h2⟩ := h.narrow hm
    refine (markEntryS_ _ _ v m k0 w hk hl (hn.sits (by omega))).mono ?_
    rintro e w' ⟨rfl, o, d⟩
    exact ⟨rfl, o.now.wide h1 (by omega), ⟨_, _, d, .inr ⟨hm, rfl, rfl⟩⟩, d.wider h1 (by omega)⟩
theorem mkEntryS_nil {k : Nat} {m : List Ent} : mkEntryS k m = [] ↔ m = [] := by
  rw [← List.length_eq_zero_iff, ← List.length_eq_zero_iff, mkEntryS_len]
end Go.Proofs.Ytaamipmlalplbaa
