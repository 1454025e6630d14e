/- Rows of readers that told nothing: marked, and looked at, as the exact laws do. -/
import Derived.Test.YtaamipmlalplbaaDpM
import Derived.Deep.DeepCutAuto
namespace Go.Proofs.Ytaamipmlalplbaa
open Go.ChangeShapes Go.WideShapes Go.ChangeAt Go.RowKit
set_option linter.unusedVariables false
set_option linter.unusedSimpArgs false
set_option maxRecDepth 100000

/-- Readers that told nothing, marked. -/
def mkRe (k0 : Nat) (n : Nat) : List Rr := (List.range n).map fun i => ⟨((k0 + 2 * i : Nat) : Int), ((k0 + 2 * i + 1 : Nat) : Int), []⟩
theorem mkRe_len (k0 n : Nat) : (mkRe k0 n).length = n := by simp [mkRe]
theorem mkRe_at (k0 n i : Nat) (h : i < (mkRe k0 n).length) : (mkRe k0 n)[i] = ⟨((k0 + 2 * i : Nat) : Int), ((k0 + 2 * i + 1 : Nat) : Int), []⟩ := by simp [mkRe]
set_option maxHeartbeats 4000000 in
theorem heldReaderS_e (v : Value) (n k0 : Nat) (w : World) (hk : k0 ≤ 134217728) (hl : n ≤ 1048576) (h : RdReaderS v (mkRe k0 n) w) :
    Calls Try.prog 40 #[v, .int .i64 (k0 : Int)] w fun e w' => e = .returned (.int .i64 ((k0 + 2 * n : Nat) : Int)) ∧ Below w.heap.size w w' := by
  obtain ⟨rs, hm, hr, hn⟩ := h
  have hlr : rs.length = n := by rw [← List.length_map (f := Pd.m), hm, mkRe_len]
  subst hlr
  have HE : Hid (∀ k (hk : k < rs.length), rs[k].m = ⟨((k0 + 2 * k : Nat) : Int), ((k0 + 2 * k + 1 : Nat) : Int), []⟩) := fun k hk => by
    have e : (rs.map Pd.m)[k]'(by simpa using hk) = (mkRe k0 rs.length)[k]'(by rw [mkRe_len]; exact hk) := by simp only [hm]
    rw [List.getElem_map, mkRe_at] at e
    exact e
  have HV := dHide fun W (hb : Below w.heap.size w W) => hr.below hb
  have HN := dHide fun W (hb : Below w.heap.size w W) k (hk : k < rs.length) => (hn _ (List.getElem_mem hk)).below hb
  have hl0 := hr.1
  obtain ⟨-, a, cap, rfl, -, -⟩ := hr
  clear hn hm
  go_enter Try.func40, Try.ntmps40
  go_wp2
  go_loopw [5, 1] (fun x y wr => ∃ (k K : Nat), x = .int .i64 (k : Int) ∧ y = .int .i64 (K : Int) ∧ k ≤ rs.length ∧ Hid (K = k0 + 2 * k) ∧ Below w.heap.size w wr) (fun x _ _ => rs.length - (intOf x).toNat)
  case atStart => exact ⟨0, k0, rfl, rfl, Nat.zero_le _, rfl, Below.refl _ _⟩
  case round =>
    obtain ⟨k, K, rfl, rfl, hkk, hK, hb⟩ := hrel
    by_cases hlt : (k : Int) < (rs.length : Int)
    · have hkl : k < rs.length := by omega
      have hKb : K ≤ 268435456 := by have := dUnhide hK; omega
      have eM := dUnhide HE k hkl
      rw [← dUnhide hK] at eM
      obtain ⟨b, off, rfl, he⟩ := (dUnhide HV _ hb).pd hkl
      have hck := he k hkl
      have hF := dUnhide HN _ hb k hkl
      rw [eM] at hF
      obtain ⟨sv, e, h3⟩ := hF
      have e := Pd.eq e
      simp only at e h3
      rw [e] at hck
      have C1 := heldEventS_ sv [] (K + 2) wr (by omega) (by simp [cntEventS]) h3
      obtain ⟨ea, ec, rfl, -⟩ := formEventS h3
      have e3 : ((K + 2 : Nat) : Int) = (K : Int) + 1 + 1 := by omega
      have e4 : ((K + 2 + cntEventS [] : Nat) : Int) = (K : Int) + 1 + 1 := by rw [← e3]; rfl
      rw [e4, e3] at C1
      have C1 := dHide C1
      have c0 := hck 0 _ rfl
      have c1 := hck 1 _ rfl
      have c2 := hck 2 _ rfl
      have e5 : ((K + 1 : Nat) : Int) = (K : Int) + 1 := by omega
      rw [e5] at c1
      simp only [Nat.add_zero] at c0 c1 c2
      have u1 : ¬ (K : Int) + 1 + 1 < 0 := by omega
      have hK2 : Hid (K + 2 = k0 + 2 * (k + 1)) := by rw [Hid, dUnhide hK]; omega
      clear hck e eM h3 e3 e4 e5 hK he
      simp only [List.length_nil] at *
      go_wp2_with fail
      refine (dUnhide C1).mono ?_
      rintro r w1 ⟨rfl, b1⟩
      have hb1 := belowThen hb b1
      clear C1 c0 c1 c2 b1
      go_wp2
      go_roundw
      case rel => exact ⟨k + 1, K + 2, by go_num, by go_num, by omega, hK2, hb1⟩
      case measure => simp [intOf]; omega
    · have e1 : k = rs.length := by omega
      have e2 : Hid ((K : Int) = ((k0 + 2 * rs.length : Nat) : Int)) := by rw [Hid, dUnhide hK, e1]
      clear hK HE HV HN
      go_wp2
      go_ret
      exact ⟨by have e := dUnhide e2; simp only [Int.natCast_add] at e; simp [e], hb⟩
/-- What is owned by an empty row is owned in any world. -/
theorem OwEventS.nil_any {lo hi lo' hi' : Nat} {v : Value} {w w' : World} (h : OwEventS lo hi v [] w) : OwEventS lo' hi' v [] w' := by
  obtain ⟨⟨h0, a, cap, e, hc, -⟩, -⟩ := h
  exact ⟨⟨h0, a, cap, e, hc, .inl rfl⟩, .inl rfl⟩
theorem OwD.nil_any {n : Nat} {μ : Type} {Ow : Nat → Nat → Value → μ → World → Prop} {lo hi lo' hi' : Nat} {v : Value} {w w' : World} (h : OwD n Ow lo hi v [] w) (hh : lo' ≤ hi') : OwD n Ow lo' hi' v [] w' := by
  obtain ⟨rs, s, h1, ⟨h0, a, cap, e, hc, -⟩, -⟩ := h
  have : rs = [] := by cases rs with | nil => rfl | cons x l => simp at h1
  subst this
  exact ⟨[], fun _ => lo', rfl, ⟨h0, a, cap, e, hc, .inl rfl⟩, .inl rfl, ⟨Nat.le_refl _, fun i hi => Nat.le_refl _, hh⟩, fun i h => by simp at h⟩
/-- The state of marking readers that told nothing. -/
def MkRe (lo hi k0 : Nat) (w wr : World) (b off : Nat) (rs : List (Pd 3 Rr)) (k : Nat) : Prop :=
  ∃ f : Nat → Pd 3 Rr, RowG 3 Pd.c wr b off rs.length f ∧ (∀ i (h : i < rs.length), k ≤ i → f i = rs[i]) ∧ (∀ i (h : i < rs.length), i < k → (f i).m = ⟨((k0 + 2 * i : Nat) : Int), ((k0 + 2 * i + 1 : Nat) : Int), []⟩ ∧ ∃ a c, c ≤ 9223372036854775807 ∧ (f i).c = [.int .i64 ((k0 + 2 * i : Nat) : Int), .int .i64 ((k0 + 2 * i + 1 : Nat) : Int), .slice a 0 c]) ∧ Wr lo hi w wr ∧ hi ≤ wr.heap.size
set_option maxHeartbeats 4000000 in
theorem markReaderS_e (lo hi : Nat) (v : Value) (ms : List Rr) (k0 : Nat) (w : World) (hk : k0 ≤ 134217728) (hl : ms.length ≤ 1048576) (he : ∀ x ∈ ms, x.out = []) (hf : hi ≤ w.heap.size) (h : OwReaderS lo hi v ms w) :
    Calls Try.prog 32 #[v, .int .i64 (k0 : Int)] w fun e w' => e = .returned (.int .i64 ((k0 + 2 * ms.length : Nat) : Int)) ∧ OwReaderS lo hi v (mkRe k0 ms.length) w' ∧ Wr lo hi w w' := by
  have h' := h
  obtain ⟨a0, cap0, rfl, hl0⟩ := formD h.rd
  obtain ⟨rs, s, rfl, hO, hB, hsp, hN⟩ := h
  rw [List.length_map] at *
  rcases Nat.eq_zero_or_pos rs.length with h0 | h0
  · obtain rfl : rs = [] := List.length_eq_zero_iff.1 h0
    clear hO hB hsp hN he
    go_enter Try.func32, Try.ntmps32
    go_wp2
    go_rounds 1
    go_ret
    exact ⟨rfl, h', Wr.refl _ _ _⟩
  · obtain ⟨b, off, rfl, hb1, Z0⟩ := hO.rowG h0 zeroReaderS
    obtain ⟨-, a1, cap1, e1, hcap, -⟩ := hO
    simp only [Value.slice.injEq] at e1
    have hs0 : b < s 0 := by
      rcases hB with h | h
      · rw [h] at h0; simp at h0
      · exact h
    have hbh : b < hi := by have := hsp.hi 0 (Nat.zero_le _); omega
    have HE : Hid (∀ k (hk : k < rs.length), ∃ a c, c ≤ 9223372036854775807 ∧ rs[k].c = [.int .i64 rs[k].m.epoch, .int .i64 rs[k].m.off, .slice a 0 c]) := fun k hk => by
      obtain ⟨sv, e, q⟩ := hN k hk
      rw [he _ (List.mem_map.2 ⟨_, List.getElem_mem hk, rfl⟩)] at q
      obtain ⟨⟨-, a, c, rfl, hc, -⟩, -⟩ := q
      exact ⟨a, c, hc.2, Pd.eq e⟩
    have M0 : MkRe lo hi k0 w w b off rs 0 := ⟨_, Z0, fun i hi _ => by
      show rs.getD i zeroReaderS = rs[i]
      rw [List.getD_eq_getElem?_getD, List.getElem?_eq_getElem hi]
      rfl, fun i h hi => by omega, Wr.refl _ _ _, hf⟩
    have FIN : Hid (∀ W, MkRe lo hi k0 w W b off rs rs.length → OwReaderS lo hi (.slice (some ⟨b, off, none⟩) rs.length cap0) (mkRe k0 rs.length) W ∧ Wr lo hi w W) := fun W ⟨f, g1, g2, g3, g4, g5⟩ => by
      have hl' : ((List.range rs.length).map f).length = rs.length := by simp
      have hq := g1.own (es := (List.range rs.length).map f) (base := lo) (cap := cap0) hl'.symm (fun i hi => by simp) hb1 (by omega) (by rw [hl']; have := e1.2.2; omega)
      rw [hl'] at hq
      refine ⟨⟨(List.range rs.length).map f, s, ?_, hq, .inr hs0, by rw [hl']; exact hsp, fun i hi => ?_⟩, g4⟩
      · apply List.ext_getElem
        · simp [mkRe]
        · intro i q1 q2
          have q3 : i < rs.length := by simpa using q1
          rw [mkRe_at]
          simp [(g3 i q3 q3).1]
      · have q3 : i < rs.length := by simpa using hi
        have e1 : ((List.range rs.length).map f)[i] = f i := by simp
        obtain ⟨c1, a, c, hc, c2⟩ := g3 i q3 q3
        rw [e1, c1]
        refine ⟨.slice a 0 c, ?_, ⟨by simp, a, c, rfl, by simpa using hc, .inl rfl⟩, .inl rfl⟩
        unfold Pd.val
        rw [c2]
    have HM := dHide M0
    clear M0 hN hB hsp Z0 h' e1 hcap he
    go_enter Try.func32, Try.ntmps32
    go_wp2
    go_loopw [5, 1] (fun x y wr => ∃ (k K : Nat), x = .int .i64 (k : Int) ∧ y = .int .i64 (K : Int) ∧ k ≤ rs.length ∧ Hid (K = k0 + 2 * k) ∧ Hid (MkRe lo hi k0 w wr b off rs k)) (fun x _ _ => rs.length - (intOf x).toNat)
    case atStart => exact ⟨0, k0, rfl, rfl, Nat.zero_le _, rfl, dUnhide HM⟩
    case round =>
      obtain ⟨k, K, rfl, rfl, hkk, hK, hM⟩ := hrel
      by_cases hlt : (k : Int) < (rs.length : Int)
      · have hkl : k < rs.length := by omega
        have hKb : K ≤ 268435456 := by have := dUnhide hK; omega
        obtain ⟨f, g1, g2, g3, g4, g5⟩ := dUnhide hM
        obtain ⟨xa, xc, hxc, ec⟩ := dUnhide HE k hkl
        have efk := g2 k hkl (Nat.le_refl _)
        obtain ⟨z0, f0⟩ := g1 k hkl 0 (.int .i64 rs[k].m.epoch) (by rw [efk, ec]; rfl)
        have N0 := g1.put Pd.len hkl 0 (by decide) (.int .i64 (K : Int)) ⟨[.int .i64 (K : Int), .int .i64 rs[k].m.off, .slice xa 0 xc], rfl, ⟨0, 0, []⟩⟩ (by rw [efk, ec]; rfl)
        obtain ⟨z1, f1⟩ := N0 k hkl 1 (.int .i64 rs[k].m.off) (by rw [putG_same]; rfl)
        have N1 := N0.put Pd.len hkl 1 (by decide) (.int .i64 ((K : Int) + 1)) ⟨[.int .i64 (K : Int), .int .i64 ((K : Int) + 1), .slice xa 0 xc], rfl, ⟨(K : Int), (K : Int) + 1, []⟩⟩ (by rw [putG_same]; rfl)
        rw [putG_twice] at N1
        obtain ⟨z2, -⟩ := N1 k hkl 2 (.slice xa 0 xc) (by rw [putG_same]; rfl)
        simp only [Nat.add_zero] at z0 f0 z1 f1 z2 N1
        have W1 := (g4.set (o := off + k * 3) hb1 hbh (.int .i64 (K : Int))).set (o := off + k * 3 + 1) hb1 hbh (.int .i64 ((K : Int) + 1))
        have hz : hi ≤ ((wr.setCell ⟨b, off + k * 3, none⟩ (.int .i64 (K : Int))).setCell ⟨b, off + k * 3 + 1, none⟩ (.int .i64 ((K : Int) + 1))).heap.size := by simpa using g5
        have ho : OwEventS 0 0 (.slice xa 0 xc) [] ((wr.setCell ⟨b, off + k * 3, none⟩ (.int .i64 (K : Int))).setCell ⟨b, off + k * 3 + 1, none⟩ (.int .i64 ((K : Int) + 1))) := ⟨⟨by simp, xa, xc, rfl, by simpa using hxc, .inl rfl⟩, .inl rfl⟩
        have C1 := markEventS_ 0 0 (.slice xa 0 xc) [] (K + 2) _ (by omega) (by simp [cntEventS]) (OwG.sits ho (Nat.zero_le _))
        have e3 : ((K + 2 : Nat) : Int) = (K : Int) + 1 + 1 := by omega
        have e4 : ((K + 2 + cntEventS [] : Nat) : Int) = (K : Int) + 1 + 1 := by rw [← e3]; rfl
        rw [e4, e3] at C1
        have C1 := dHide C1
        have NX : Hid (∀ w2, Wr 0 0 ((wr.setCell ⟨b, off + k * 3, none⟩ (.int .i64 (K : Int))).setCell ⟨b, off + k * 3 + 1, none⟩ (.int .i64 ((K : Int) + 1))) w2 → MkRe lo hi k0 w w2 b off rs (k + 1)) := fun w2 hw => by
          refine ⟨_, N1.wr hw (.inr (Nat.zero_le _)), fun i h hi => ?_, fun i h hi => ?_, W1.trans ⟨hw.os, hw.tape, hw.output, hw.size, fun j hj hn => hw.block j hj (.inr (Nat.zero_le _))⟩, Nat.le_trans hz hw.size⟩
          · rw [putG_ne _ _ (by omega)]
            exact g2 i h (by omega)
          · by_cases e : i = k
            · subst e
              rw [putG_same, ← dUnhide hK]
              have e5 : ((K + 1 : Nat) : Int) = (K : Int) + 1 := by omega
              rw [e5]
              exact ⟨rfl, xa, xc, hxc, rfl⟩
            · rw [putG_ne _ _ e]
              exact g3 i h (by omega)
        have hK2 : Hid (K + 2 = k0 + 2 * (k + 1)) := by rw [Hid, dUnhide hK]; omega
        generalize rs[k].m.epoch = ep at *
        generalize rs[k].m.off = eo at *
        clear N0 N1 W1 hz ho e3 e4 g1 g2 g3 g4 g5 efk ec hM hK
        go_wp2_with fail
        refine (dUnhide C1).mono ?_
        rintro r w2 ⟨rfl, -, d2⟩
        have M2 := dHide (dUnhide NX w2 d2)
        clear C1 NX z0 f0 z1 f1 z2 d2
        go_wp2
        go_roundw
        case rel => exact ⟨k + 1, K + 2, by go_num, by go_num, by omega, hK2, dUnhide M2⟩
        case measure => simp [intOf]; omega
      · have e1 : k = rs.length := by omega
        subst e1
        have e2 : Hid ((K : Int) = ((k0 + 2 * rs.length : Nat) : Int)) := by rw [Hid, dUnhide hK]
        have O := dHide (dUnhide FIN wr (dUnhide hM))
        clear hM hK FIN HM HE
        go_wp2
        go_ret
        exact ⟨by have e := dUnhide e2; simp only [Int.natCast_add] at e; simp [e], dUnhide O⟩
end Go.Proofs.Ytaamipmlalplbaa
