/- spec's Fill. -/
import Derived.Test.YtejmfohkobhidaaFiA
import Derived.Test.YtejmfohkobhidaaStE
import Derived.Test.YtejmfohkobhidaaGaA

namespace Go.Proofs.Ytejmfohkobhidaa
open Go.ChangeShapes Go.WideShapes Go.ChangeAt Go.RowKit
set_option linter.unusedVariables false
set_option linter.unusedSimpArgs false
set_option maxRecDepth 100000

theorem mem_keepAll {e : Ent} {l : List Ent} : ∀ {acc : List Ent}, e ∈ keepAll acc l → e ∈ acc ∨ e ∈ l := by
  induction l with
  | nil => intro acc h; exact .inl h
  | cons x l ih =>
    intro acc h
    rcases ih (acc := keepL x acc) h with h | h
    · rcases mem_keepL h with rfl | h
      · exact .inr (by simp)
      · exact .inl h
    · exact .inr (by simp [h])
theorem mem_unL {e : Ent} {ls : List (List Ent)} (h : e ∈ unL ls) : ∃ l ∈ ls, e ∈ l := by
  have : ∀ (ls : List (List Ent)) (acc : List Ent), e ∈ ls.foldl keepAll acc → e ∈ acc ∨ ∃ l ∈ ls, e ∈ l := by
    intro ls
    induction ls with
    | nil => intro acc h; exact .inl h
    | cons l ls ih =>
      intro acc h
      rcases ih _ h with h | ⟨q, hq, h⟩
      · rcases mem_keepAll h with h | h
        · exact .inl h
        · exact .inr ⟨l, by simp, h⟩
      · exact .inr ⟨q, by simp [hq], h⟩
  rcases this ls [] h with h | h
  · cases h
  · exact h
theorem bes_q (lost : List Int) (ms : List St) : ∀ k, k ≤ ms.length → (bes lost ms k).length + sumQ (kepts (bes lost ms k)) ≤ k + sumQ (kepts (ms.take k)) := by
  intro k
  induction k with
  | zero => intro _; simp [bes_zero, sumQ, kepts]
  | succ n ih =>
    intro hk
    have h1 := ih (by omega)
    have h2 : sumQ (kepts (ms.take (n + 1))) = sumQ (kepts (ms.take n)) + ms[n].kept.length := by
      rw [List.take_succ_eq_append_getElem (by omega)]
      unfold kepts
      rw [List.map_append, sumQ_app]
      simp only [sumQ, List.map_cons, List.map_nil, List.sum_cons, List.sum_nil, Nat.add_zero]
    by_cases h : (n : Int) ∈ lost
    · rw [bes_in h]; omega
    · rw [bes_out (by omega) h]
      have e1 : (bes lost ms n ++ [ms[n]]).length = (bes lost ms n).length + 1 := by simp
      have e2 : sumQ (kepts (bes lost ms n ++ [ms[n]])) = sumQ (kepts (bes lost ms n)) + ms[n].kept.length := by simp [sumQ, kepts]
      rw [e1, e2]
      omega
theorem othL_q {lost : List Int} {ms : List St} (h : ms.length + sumQ (kepts ms) ≤ 1048576) : (othL lost ms).length + sumQ (kepts (othL lost ms)) ≤ 1048576 := by
  have h1 := bes_q lost ms ms.length (Nat.le_refl _)
  rw [List.take_length] at h1
  unfold othL
  omega
theorem unL_fit {ms : List St} (h : ∀ m ∈ ms, fitS m) : fitE (unL (kepts ms)) := fun e he => by
  obtain ⟨l, hl, he⟩ := mem_unL he
  obtain ⟨m, hm, rfl⟩ := List.mem_map.1 hl
  exact (h m hm).1 e he
/-- A store whose list is new, and nothing is late. -/
theorem OwS.kept {w : World} {base : Nat} {u : Value} {es : List Ent} {lk : Int} (h : ApE w base u es) : OwS w base (.agg #[u, .slice none 0 0, .int .i64 lk]) ⟨es, [], lk⟩ := ⟨u, _, rfl, h, .inl ⟨rfl, none, rfl⟩, by
  cases ht : touch u with
  | none => exact .inl rfl
  | some k => exact .inr (by simp [touch])⟩
set_option maxHeartbeats 8000000 in
theorem specFill_q (cv v lv : Value) (ds : List Int) (cop : Int) (ms : List St) (lost : List Int) (node upto : Int) (w : World) (hc : Ns w cv ds) (hv : RdStoreS v ms w) (hlo : Ns w lv lost) (hf : ∀ m ∈ ms, fitS m) (hl : ms.length + sumQ (kepts ms) ≤ 1048576) (hal : allInt lost) (hll : lost.length ≤ 1048576) (had : allInt ds) (hld : ds.length ≤ 1048576) (c0 : -9223372036854775808 ≤ cop) (c1 : cop ≤ 9223372036854775807) (u0 : -9223372036854775808 ≤ upto) (u1 : upto ≤ 9223372036854775807) :
    Calls Try.prog 20 #[.agg #[cv, .int .i64 cop], v, lv, .int .i64 node, .int .i64 upto] w fun r w' => (∃ u, r = .returned (.tuple #[u, .bool (fillM ds cop ms lost node upto).2]) ∧ OwS w' w.heap.size u (fillM ds cop ms lost node upto).1) ∧ Below w.heap.size w w' := by
  have ba : ∀ (w : World) o, Below w.heap.size w (w.alloc o) := fun w o => (Below.refl _ _).alloc (Nat.le_refl _) o
  have PN : Hid (¬ fillP ds cop ms lost node upto → fillM ds cop ms lost node upto = (⟨[], [], 0⟩, false)) := fillM_no
  have PY : Hid (fillP ds cop ms lost node upto → fillM ds cop ms lost node upto = (⟨unL (kepts (othL lost ms)), [], upto⟩, true)) := fillM_yes
  have PD : Hid (fillP ds cop ms lost node upto ↔ (ms.length = ds.length ∧ lostP ds cop lost ∧ node ∈ lost) ∧ (∀ m ∈ othL lost ms, stP m) ∧ stP ⟨unL (kepts (othL lost ms)), [], upto⟩) := Iff.rfl
  have hfo : ∀ m ∈ othL lost ms, fitS m := fun m hm => hf m (mem_bes hm)
  have hso := othL_q (lost := lost) hl
  have HPC : Hid (lostP ds cop lost → cfgP ds cop) := fun h => h.1.1
  have C1 := dHide fun W (hb : Below w.heap.size w W) => specCfg_any cv ds cop W (hc.below hb)
  have C2 := dHide fun W (hb : Below w.heap.size w W) => specLost_any cv lv ds lost cop W (hc.below hb) (hlo.below hb) (by omega)
  have C3 := dHide fun (y : Int) W (hb : Below w.heap.size w W) => l4Has_any lv lost y W (hlo.below hb)
  have C6 := dHide fun u W (hb : Below w.heap.size w W) (A : Rw 4 Ent.cl W u (unL (kepts (othL lost ms)))) => specStoreOk_any (.agg #[u, .slice none 0 0, .int .i64 upto]) ⟨unL (kepts (othL lost ms)), [], upto⟩ W ⟨u, _, rfl, A, Rw.nil _ _ _ (by omega)⟩ ⟨unL_fit hfo, (fun e h => by cases h), u0, u1⟩
  generalize fillM ds cop ms lost node upto = M at *
  generalize fillP ds cop ms lost node upto = FP at *
  obtain ⟨rs, rfl, hr, hn⟩ := hv
  have hlen : rs.length ≤ 1048576 := by rw [List.length_map] at hl; omega
  have HOM : Hid (othL lost (rs.map Ps.m) = (bes lost rs rs.length).map Ps.m) := by rw [Hid, othL, List.length_map, bes_map]
  have HNB : Hid (∀ W, Below w.heap.size w W → ∀ p ∈ bes lost rs rs.length, RdStore (psVal p) p.m W) := fun W hb p hp => (hn p (mem_bes hp)).below hb
  have HLN : Hid ((rs.map Ps.m).length = rs.length) := by simp [Hid]
  have HV := dHide fun W (hb : Below w.heap.size w W) => hr.below hb
  have CU : Hid (∀ o W, Below w.heap.size w W → Rw 3 psCl W o (bes lost rs rs.length) → Calls Try.prog 56 #[o] W fun e w' => (∃ u, e = .returned u ∧ ApE w' W.heap.size u (unL (kepts (othL lost (rs.map Ps.m))))) ∧ Below W.heap.size W w') := fun o W hb h => l11Union_any o (othL lost (rs.map Ps.m)) W ⟨_, (dUnhide HOM).symm, h, dUnhide HNB W hb⟩ hso
  have CS := dHide fun k (hk : k < (bes lost rs rs.length).length) W (hb : Below w.heap.size w W) => specStoreOk_any (psVal (bes lost rs rs.length)[k]) (bes lost rs rs.length)[k].m W (dUnhide HNB W hb _ (List.getElem_mem hk)) (hfo _ (by rw [dUnhide HOM]; exact List.mem_map.2 ⟨_, List.getElem_mem hk, rfl⟩))
  have HAL : Hid ((∀ m ∈ othL lost (rs.map Ps.m), stP m) ↔ ∀ i (h : i < (bes lost rs rs.length).length), stP (bes lost rs rs.length)[i].m) := by
    rw [Hid, dUnhide HOM]
    constructor
    · intro h i hi
      exact h _ (List.mem_map.2 ⟨_, List.getElem_mem hi, rfl⟩)
    · intro h m hm
      obtain ⟨p, hp, rfl⟩ := List.mem_map.1 hm
      obtain ⟨i, hi, rfl⟩ := List.getElem_of_mem hp
      exact h i hi
  have HBL : Hid (∀ k, k ≤ rs.length → (bes lost rs k).length ≤ 1048576) := fun k hk => by have := bes_len lost rs k; omega
  obtain ⟨-, ca, cc, rfl, -, -⟩ := hc
  obtain ⟨-, la, lc, rfl, -, -⟩ := hlo
  obtain ⟨h0, a, cap, rfl, -, -⟩ := hr
  clear hn hf hl hal hll had hld c0 c1 hfo hso
  generalize othL lost (rs.map Ps.m) = OT at *
  generalize unL (kepts OT) = UL at *
  have X0 := (Bx.new w [.slice ca ds.length cc, .int .i64 cop] 42).below (belowThen (ba _ (.cells #[.slice none 0 0, .slice none 0 0, .int .i64 0] 26)) (ba _ (.cells #[.slice none 0 0, .slice none 0 0, .int .i64 0] 26)))
  have Z0 := (BxZ.new (B := w.heap.size) (w.alloc (.cells #[.slice ca ds.length cc, .int .i64 cop] 42)) [.slice none 0 0, .slice none 0 0, .int .i64 0] 26 (by simp)).below (ba _ (.cells #[.slice none 0 0, .slice none 0 0, .int .i64 0] 26))
  have N0 := Bx.new ((w.alloc (.cells #[.slice ca ds.length cc, .int .i64 cop] 42)).alloc (.cells #[.slice none 0 0, .slice none 0 0, .int .i64 0] 26)) [.slice none 0 0, .slice none 0 0, .int .i64 0] 26
  have B0 := belowThen (belowThen (ba w (.cells #[.slice ca ds.length cc, .int .i64 cop] 42)) (ba _ (.cells #[.slice none 0 0, .slice none 0 0, .int .i64 0] 26))) (ba _ (.cells #[.slice none 0 0, .slice none 0 0, .int .i64 0] 26))
  have e1 : (w.alloc (.cells #[.slice ca ds.length cc, .int .i64 cop] 42)).heap.size = w.heap.size + 1 := by simp
  have e2 : ((w.alloc (.cells #[.slice ca ds.length cc, .int .i64 cop] 42)).alloc (.cells #[.slice none 0 0, .slice none 0 0, .int .i64 0] 26)).heap.size = w.heap.size + 1 + 1 := by simp
  rw [e2] at N0
  clear e2
  rw [e1] at Z0
  clear e1
  go_enter Try.func20, Try.ntmps20
  go_wp2_with fail
  generalize (((w.alloc (.cells #[.slice ca ds.length cc, .int .i64 cop] 42)).alloc (.cells #[.slice none 0 0, .slice none 0 0, .int .i64 0] 26)).alloc (.cells #[.slice none 0 0, .slice none 0 0, .int .i64 0] 26)) = w0 at *
  have hw0 : w.heap.size ≤ w0.heap.size := B0.size
  have hlt := Z0.lt
  have K : Hid (∀ W, Below w0.heap.size w0 W → Bx W w.heap.size [.slice ca ds.length cc, .int .i64 cop] ∧ BxZ W w.heap.size (w.heap.size + 1) [.slice none 0 0, .slice none 0 0, .int .i64 0] ∧ Bx W (w.heap.size + 1 + 1) [.slice none 0 0, .slice none 0 0, .int .i64 0] ∧ Below w.heap.size w W) := fun W hb => ⟨X0.below hb, Z0.below hb, N0.below hb, belowThen B0 hb⟩
  have FINZ : Hid (∀ W, Below w0.heap.size w0 W → Bx (((W.setCell ⟨w.heap.size + 1, 0, none⟩ (.slice none 0 0)).setCell ⟨w.heap.size + 1, 1, none⟩ (.slice none 0 0)).setCell ⟨w.heap.size + 1, 2, none⟩ (.int .i64 0)) (w.heap.size + 1) [.slice none 0 0, .slice none 0 0, .int .i64 0] ∧ Below w.heap.size w (((W.setCell ⟨w.heap.size + 1, 0, none⟩ (.slice none 0 0)).setCell ⟨w.heap.size + 1, 1, none⟩ (.slice none 0 0)).setCell ⟨w.heap.size + 1, 2, none⟩ (.int .i64 0))) := fun W hb => by
    obtain ⟨-, zz, -, bb⟩ := dUnhide K W hb
    exact ⟨(((zz.put 0 (.slice none 0 0)).put 1 (.slice none 0 0)).put 2 (.int .i64 0)).bx, ((bb.setCell (p := ⟨w.heap.size + 1, 0, none⟩) (by simp only; omega) _).setCell (p := ⟨w.heap.size + 1, 1, none⟩) (by simp only; omega) _).setCell (p := ⟨w.heap.size + 1, 2, none⟩) (by simp only; omega) _⟩
  clear X0 Z0 N0
  refine (dUnhide C1 _ B0).mono ?_
  rintro e w1 ⟨⟨b1, rfl, h1⟩, bl1⟩
  cases b1
  · have eM := dUnhide PN (fun h => by have := h1.2 (dUnhide HPC ((dUnhide PD).1 h).1.2.1); cases this)
    obtain ⟨XE, ZE, NE, BE⟩ := dUnhide K w1 bl1
    have n0 := NE 0 _ rfl
    have n1 := NE 1 _ rfl
    have n2 := NE 2 _ rfl
    obtain ⟨z0, f0⟩ := ZE.2 0 _ rfl
    obtain ⟨z1, f1⟩ := ZE.2 1 _ rfl
    obtain ⟨z2, f2⟩ := ZE.2 2 _ rfl
    obtain ⟨hx, hB⟩ := dUnhide FINZ w1 bl1
    clear XE ZE NE BE K FINZ PN PY C2 C3 C6 CU HOM HNB HLN HV PD HPC C1 CS HAL HBL h1
    go_wp2
    generalize ((w1.setCell ⟨w.heap.size + 1, 0, none⟩ (.slice none 0 0)).setCell ⟨w.heap.size + 1, 1, none⟩ (.slice none 0 0)).setCell ⟨w.heap.size + 1, 2, none⟩ (.int .i64 0) = V at *
    have q0 := hx 0 _ rfl
    have q1 := hx 1 _ rfl
    have q2 := hx 2 _ rfl
    clear n0 n1 n2 z0 z1 z2 f0 f1 f2 hx
    subst eM
    refine bodyPost_ret (v := .tuple #[.agg #[.slice none 0 0, .slice none 0 0, .int .i64 0], .bool false]) (by simp [results, Try.results20, go_sem, q0, q1, q2]) rfl ⟨⟨_, rfl, OwS.zero V _⟩, hB⟩
  clear h1 C1
  have k0 := (dUnhide K w1 bl1).1 0 _ rfl
  have k1 := (dUnhide K w1 bl1).1 1 _ rfl
  by_cases hle : rs.length = ds.length
  · have hd : ((rs.length : Int) != (ds.length : Int)) = false := by rw [hle]; simp
    have HLE := dHide (show (rs.map Ps.m).length = ds.length by rw [dUnhide HLN]; exact hle)
    clear hle
    go_wp2_with fail
    refine (dUnhide C2 _ (dUnhide K w1 bl1).2.2.2).mono ?_
    rintro e w2 ⟨⟨b2, rfl, h2⟩, bl2⟩
    have bl2 := belowThen bl1 bl2
    clear k0 k1 C2
    cases b2
    · have eM := dUnhide PN (fun h => by have := h2.2 ((dUnhide PD).1 h).1.2.1; cases this)
      obtain ⟨XE, ZE, NE, BE⟩ := dUnhide K w2 bl2
      have n0 := NE 0 _ rfl
      have n1 := NE 1 _ rfl
      have n2 := NE 2 _ rfl
      obtain ⟨z0, f0⟩ := ZE.2 0 _ rfl
      obtain ⟨z1, f1⟩ := ZE.2 1 _ rfl
      obtain ⟨z2, f2⟩ := ZE.2 2 _ rfl
      obtain ⟨hx, hB⟩ := dUnhide FINZ w2 bl2
      clear XE ZE NE BE K FINZ PN PY C3 C6 CU HOM HNB HLN HV PD HPC CS HAL HBL h2 bl1
      go_wp2
      generalize ((w2.setCell ⟨w.heap.size + 1, 0, none⟩ (.slice none 0 0)).setCell ⟨w.heap.size + 1, 1, none⟩ (.slice none 0 0)).setCell ⟨w.heap.size + 1, 2, none⟩ (.int .i64 0) = V at *
      have q0 := hx 0 _ rfl
      have q1 := hx 1 _ rfl
      have q2 := hx 2 _ rfl
      clear n0 n1 n2 z0 z1 z2 f0 f1 f2 hx
      subst eM
      refine bodyPost_ret (v := .tuple #[.agg #[.slice none 0 0, .slice none 0 0, .int .i64 0], .bool false]) (by simp [results, Try.results20, go_sem, q0, q1, q2]) rfl ⟨⟨_, rfl, OwS.zero V _⟩, hB⟩
    have H2 := dHide (h2.1 rfl)
    clear h2
    go_wp2_with fail
    refine (dUnhide C3 node _ (dUnhide K w2 bl2).2.2.2).mono ?_
    rintro e w3 ⟨⟨b3, rfl, h3⟩, rfl⟩
    cases b3
    · have eM := dUnhide PN (fun h => by have := h3.2 ((dUnhide PD).1 h).1.2.2; cases this)
      obtain ⟨XE, ZE, NE, BE⟩ := dUnhide K w3 bl2
      have n0 := NE 0 _ rfl
      have n1 := NE 1 _ rfl
      have n2 := NE 2 _ rfl
      obtain ⟨z0, f0⟩ := ZE.2 0 _ rfl
      obtain ⟨z1, f1⟩ := ZE.2 1 _ rfl
      obtain ⟨z2, f2⟩ := ZE.2 2 _ rfl
      obtain ⟨hx, hB⟩ := dUnhide FINZ w3 bl2
      clear XE ZE NE BE K FINZ PN PY C3 C6 CU HOM HNB HLN HV PD HPC CS HAL HBL h3 bl1 H2 HLE
      go_wp2
      generalize ((w3.setCell ⟨w.heap.size + 1, 0, none⟩ (.slice none 0 0)).setCell ⟨w.heap.size + 1, 1, none⟩ (.slice none 0 0)).setCell ⟨w.heap.size + 1, 2, none⟩ (.int .i64 0) = V at *
      have q0 := hx 0 _ rfl
      have q1 := hx 1 _ rfl
      have q2 := hx 2 _ rfl
      clear n0 n1 n2 z0 z1 z2 f0 f1 f2 hx
      subst eM
      refine bodyPost_ret (v := .tuple #[.agg #[.slice none 0 0, .slice none 0 0, .int .i64 0], .bool false]) (by simp [results, Try.results20, go_sem, q0, q1, q2]) rfl ⟨⟨_, rfl, OwS.zero V _⟩, hB⟩
    have H3 := dHide (h3.1 rfl)
    clear h3 bl1
    go_wp2_with fail
    have HBM := belowThen bl2 (ba w3 (.cells #[] 26))
    generalize w3.alloc (.cells #[] 26) = w4 at *
    generalize hBM : w4.heap.size = nb at *
    clear hBM bl2
    go_loopw [13, 14] (fun o x wr => ∃ (k : Nat), x = .int .i64 (k : Int) ∧ k ≤ rs.length ∧ ApS wr w0.heap.size o (bes lost rs k) ∧ Below w0.heap.size w0 wr) (fun _ x _ => rs.length - (intOf x).toNat)
    case atStart => exact ⟨0, rfl, Nat.zero_le _, .inl ⟨rfl, _, rfl⟩, HBM⟩
    case round =>
      obtain ⟨k, rfl, hk, A, hb⟩ := hrel
      clear HBM
      obtain ⟨oa, oc, rfl⟩ := ApR.slice elemS A
      by_cases hlt2 : (k : Int) < (rs.length : Int)
      · have hkl : k < rs.length := by omega
        obtain ⟨b, off, rfl, hce⟩ := (dUnhide HV wr (dUnhide K wr hb).2.2.2).ps hkl
        obtain ⟨c0, c1, c2⟩ := hce k hkl
        have RO : Hid (∀ (w : World) T, Rw 3 psCl (w.alloc (.cells #[.slice rs[k].ka rs[k].m.kept.length rs[k].kc, .slice rs[k].la rs[k].m.late.length rs[k].lc, .int .i64 rs[k].m.lock] T)) (.slice (some ⟨w.heap.size, 0, none⟩) 1 1) [rs[k]]) := fun w T => rwS_one w rs[k] T 1 (by omega)
        have HI : Hid ((k : Int) ∈ lost → bes lost rs (k + 1) = bes lost rs k) := bes_in
        have HO : Hid (¬ (k : Int) ∈ lost → bes lost rs (k + 1) = bes lost rs k ++ [rs[k]]) := bes_out hkl
        have CH := dHide (dUnhide C3 (k : Int) wr (dUnhide K wr hb).2.2.2)
        have hbl := dUnhide HBL k hk
        have HA := dHide A
        generalize hBK : bes lost rs k = BK at *
        generalize rs[k] = y at *
        obtain ⟨ya, yc, za, zc, m⟩ := y
        simp only at *
        clear hce A hBK
        go_wp2_with fail
        refine (dUnhide CH).mono ?_
        rintro e w5 ⟨⟨b5, rfl, h5⟩, rfl⟩
        cases b5
        · have e1 := dUnhide HO fun h => by have := h5.2 h; cases this
          clear CH h5 HI HO
          go_wp2_with (at_builtin; refine wp_apR elemS rfl _ _ rfl w0.heap.size (.slice oa BK.length oc) BK rfl (ApR.below (dUnhide HA) (ba _ _)) _ [⟨ya, yc, za, zc, m⟩] rfl (dUnhide RO _ _) ?c1 ?c2 ?c3 ?_)
          case c1 => (try simp); omega
          case c2 => (try simp); omega
          case c3 => exact (belowThen hb (ba _ _)).size
          intro v6 w6 P6 g6 t6
          have hb6 := Below.grown (belowThen hb (ba _ _)) g6 (belowThen hb (ba _ _)).size (fun k hk => ((dUnhide HA).touched elemS hk).1)
          rw [← e1] at P6
          have HP6 := dHide P6
          clear g6 t6 HA P6 e1 RO c0 c1 c2
          go_wp2
          go_roundw
          case rel => exact ⟨k + 1, by go_num, by omega, dUnhide HP6, hb6⟩
          case measure => simp [intOf]; omega
        · have e1 := dUnhide HI (h5.1 rfl)
          have HA4 : Hid (ApS w5 w0.heap.size (.slice oa BK.length oc) (bes lost rs (k + 1))) := by rw [Hid, e1]; exact dUnhide HA
          clear CH h5 HI HO RO HA e1 c0 c1 c2
          go_wp2
          go_roundw
          case rel => exact ⟨k + 1, by go_num, by omega, dUnhide HA4, hb⟩
          case measure => simp [intOf]; omega
      · have ek : k = rs.length := by omega
        subst ek
        have HA := dHide fun W (h : Below wr.heap.size wr W) => (ApR.own elemS A).rw.below h
        have hol : (bes lost rs rs.length).length ≤ 1048576 := dUnhide HBL _ (Nat.le_refl _)
        clear A HBL HV C3
        generalize bes lost rs rs.length = BS at *
        go_wp2
        go_loopw [15] (fun x wq => ∃ (j : Nat), x = .int .i64 (j : Int) ∧ j ≤ BS.length ∧ Hid (∀ i (h : i < BS.length), i < j → stP BS[i].m) ∧ Below wr.heap.size wr wq) (fun x _ => BS.length - (intOf x).toNat)
        case atStart => exact ⟨0, rfl, Nat.zero_le _, fun i h h' => by omega, Below.refl _ _⟩
        case round =>
          obtain ⟨j, rfl, hj, hinv, hb9⟩ := hrel
          have hbq := belowThen hb hb9
          by_cases hlt3 : (j : Int) < (BS.length : Int)
          · have hjl : j < BS.length := by omega
            obtain ⟨b, off, rfl, hce⟩ := (dUnhide HA _ hb9).ps hjl
            obtain ⟨c0, c1, c2⟩ := hce j hjl
            have CSk := dHide (dUnhide CS j hjl _ (dUnhide K _ hbq).2.2.2)
            have GN : Hid (¬ stP BS[j].m → ¬ FP) := fun h hF => h ((dUnhide HAL).1 ((dUnhide PD).1 hF).2.1 j hjl)
            have GY : Hid (stP BS[j].m → ∀ i (h : i < BS.length), i < j + 1 → stP BS[i].m) := fun he i h h' => by
              rcases Nat.lt_or_ge i j with hlt' | hge
              · exact dUnhide hinv i h hlt'
              · obtain rfl : i = j := by omega
                exact he
            unfold psVal at CSk
            generalize BS[j] = y at *
            obtain ⟨ya, yc, za, zc, m⟩ := y
            simp only at *
            generalize stP m = PP at *
            clear hce hinv
            go_wp2_with fail
            refine (dUnhide CSk).mono ?_
            rintro r w5 ⟨⟨b5, rfl, h5⟩, bl5⟩
            have hb5 := belowThen hbq bl5
            have hb59 := belowThen hb9 bl5
            cases b5
            · have eM := dUnhide PN (dUnhide GN fun h => by have := h5.2 h; cases this)
              obtain ⟨XE, ZE, NE, BE⟩ := dUnhide K w5 hb5
              have n0 := NE 0 _ rfl
              have n1 := NE 1 _ rfl
              have n2 := NE 2 _ rfl
              obtain ⟨z0, f0⟩ := ZE.2 0 _ rfl
              obtain ⟨z1, f1⟩ := ZE.2 1 _ rfl
              obtain ⟨z2, f2⟩ := ZE.2 2 _ rfl
              obtain ⟨hx, hB⟩ := dUnhide FINZ w5 hb5
              clear XE ZE NE BE K FINZ PN PY CSk GY GN h5 c0 c1 c2 C6 CU HNB HLN PD HPC CS HAL HOM HA H2 H3 HLE
              go_wp2
              generalize ((w5.setCell ⟨w.heap.size + 1, 0, none⟩ (.slice none 0 0)).setCell ⟨w.heap.size + 1, 1, none⟩ (.slice none 0 0)).setCell ⟨w.heap.size + 1, 2, none⟩ (.int .i64 0) = V at *
              have q0 := hx 0 _ rfl
              have q1 := hx 1 _ rfl
              have q2 := hx 2 _ rfl
              clear n0 n1 n2 z0 z1 z2 f0 f1 f2 hx
              subst eM
              refine bodyPost_ret (v := .tuple #[.agg #[.slice none 0 0, .slice none 0 0, .int .i64 0], .bool false]) (by simp [results, Try.results20, go_sem, q0, q1, q2]) rfl ⟨⟨_, rfl, OwS.zero V _⟩, hB⟩
            have G := dHide (dUnhide GY (h5.1 rfl))
            clear CSk GY GN h5 c0 c1 c2 bl5 hbq hb5
            go_wp2
            go_roundw
            case rel => exact ⟨j + 1, by go_num, by omega, G, hb59⟩
            case measure => simp [intOf]; omega
          · have HALL : Hid (∀ m ∈ OT, stP m) := (dUnhide HAL).2 fun i hi => dUnhide hinv i hi (by omega)
            have CUk := dHide (dUnhide CU _ _ (dUnhide K _ hbq).2.2.2 (dUnhide HA _ hb9))
            clear hinv HAL CS HA CU
            go_wp2_with fail
            refine (dUnhide CUk).mono ?_
            rintro r w5 ⟨⟨u, rfl, A5⟩, bl5⟩
            have A5' := A5.mono (base' := w0.heap.size) hbq.size
            have hb5 := belowThen hbq bl5
            clear A5 bl5 CUk hb9
            obtain ⟨ua, uc, rfl⟩ := ApR.slice elemE A5'
            have SB := Bx.new w5 [.slice ua UL.length uc, .slice none 0 0, .int .i64 upto] 26
            have bS := ba w5 (.cells #[.slice ua UL.length uc, .slice none 0 0, .int .i64 upto] 26)
            have hb6 := belowThen hb5 bS
            have A6 := A5'.below bS
            clear A5' hb5 bS hbq
            go_wp2_with fail
            generalize hsb : w5.heap.size = sb at *
            generalize w5.alloc (.cells #[.slice ua UL.length uc, .slice none 0 0, .int .i64 upto] 26) = w6 at *
            clear hsb
            refine (dUnhide C6 _ _ (dUnhide K _ hb6).2.2.2 (ApR.own elemE A6).rw).mono ?_
            rintro r w7 ⟨⟨b7, rfl, h7⟩, bl7⟩
            have hb7 := belowThen hb6 bl7
            have A7 := A6.below bl7
            have SB7 := SB.below bl7
            have s0 := SB7 0 _ rfl
            have s1 := SB7 1 _ rfl
            have s2 := SB7 2 _ rfl
            clear SB A6 hb6 bl7 C6 SB7
            cases b7
            · have eM := dUnhide PN (fun h => by have := h7.2 ((dUnhide PD).1 h).2.2; cases this)
              obtain ⟨XE, ZE, NE, BE⟩ := dUnhide K w7 hb7
              have n0 := NE 0 _ rfl
              have n1 := NE 1 _ rfl
              have n2 := NE 2 _ rfl
              obtain ⟨z0, f0⟩ := ZE.2 0 _ rfl
              obtain ⟨z1, f1⟩ := ZE.2 1 _ rfl
              obtain ⟨z2, f2⟩ := ZE.2 2 _ rfl
              obtain ⟨hx, hB⟩ := dUnhide FINZ w7 hb7
              clear XE ZE NE BE K FINZ PN PY h7 A7 s0 s1 s2 HNB HLN PD HPC HOM HALL H2 H3 HLE
              go_wp2
              generalize ((w7.setCell ⟨w.heap.size + 1, 0, none⟩ (.slice none 0 0)).setCell ⟨w.heap.size + 1, 1, none⟩ (.slice none 0 0)).setCell ⟨w.heap.size + 1, 2, none⟩ (.int .i64 0) = V at *
              have q0 := hx 0 _ rfl
              have q1 := hx 1 _ rfl
              have q2 := hx 2 _ rfl
              clear n0 n1 n2 z0 z1 z2 f0 f1 f2 hx
              subst eM
              refine bodyPost_ret (v := .tuple #[.agg #[.slice none 0 0, .slice none 0 0, .int .i64 0], .bool false]) (by simp [results, Try.results20, go_sem, q0, q1, q2]) rfl ⟨⟨_, rfl, OwS.zero V _⟩, hB⟩
            have eM := dUnhide PY ((dUnhide PD).2 ⟨⟨dUnhide HLE, dUnhide H2, dUnhide H3⟩, dUnhide HALL, h7.1 rfl⟩)
            obtain ⟨-, ZE, -, BE⟩ := dUnhide K w7 hb7
            obtain ⟨z0, f0⟩ := ZE.2 0 _ rfl
            obtain ⟨z1, f1⟩ := ZE.2 1 _ rfl
            obtain ⟨z2, f2⟩ := ZE.2 2 _ rfl
            have HX : Hid (Bx (((w7.setCell ⟨w.heap.size + 1, 0, none⟩ (.slice ua UL.length uc)).setCell ⟨w.heap.size + 1, 1, none⟩ (.slice none 0 0)).setCell ⟨w.heap.size + 1, 2, none⟩ (.int .i64 upto)) (w.heap.size + 1) [.slice ua UL.length uc, .slice none 0 0, .int .i64 upto]) := (((ZE.put 0 (.slice ua UL.length uc)).put 1 (.slice none 0 0)).put 2 (.int .i64 upto)).bx
            have HO : Hid (OwS (((w7.setCell ⟨w.heap.size + 1, 0, none⟩ (.slice ua UL.length uc)).setCell ⟨w.heap.size + 1, 1, none⟩ (.slice none 0 0)).setCell ⟨w.heap.size + 1, 2, none⟩ (.int .i64 upto)) w.heap.size (.agg #[.slice ua UL.length uc, .slice none 0 0, .int .i64 upto]) ⟨UL, [], upto⟩) := ((((OwS.kept (lk := upto) A7).far (b := w.heap.size + 1) (o := 0) hlt (.slice ua UL.length uc)).far (b := w.heap.size + 1) (o := 1) hlt (.slice none 0 0)).far (b := w.heap.size + 1) (o := 2) hlt (.int .i64 upto)).mono hw0
            have HB : Hid (Below w.heap.size w (((w7.setCell ⟨w.heap.size + 1, 0, none⟩ (.slice ua UL.length uc)).setCell ⟨w.heap.size + 1, 1, none⟩ (.slice none 0 0)).setCell ⟨w.heap.size + 1, 2, none⟩ (.int .i64 upto))) := ((BE.setCell (p := ⟨w.heap.size + 1, 0, none⟩) (by simp only; omega) _).setCell (p := ⟨w.heap.size + 1, 1, none⟩) (by simp only; omega) _).setCell (p := ⟨w.heap.size + 1, 2, none⟩) (by simp only; omega) _
            clear ZE BE A7 h7 PD PY PN K FINZ HNB HLN HPC HOM HALL H2 H3 HLE hb7
            go_wp2
            generalize ((w7.setCell ⟨w.heap.size + 1, 0, none⟩ (.slice ua UL.length uc)).setCell ⟨w.heap.size + 1, 1, none⟩ (.slice none 0 0)).setCell ⟨w.heap.size + 1, 2, none⟩ (.int .i64 upto) = V at *
            have q0 := dUnhide HX 0 _ rfl
            have q1 := dUnhide HX 1 _ rfl
            have q2 := dUnhide HX 2 _ rfl
            clear z0 z1 z2 f0 f1 f2 s0 s1 s2
            subst eM
            refine bodyPost_ret (v := .tuple #[.agg #[.slice ua UL.length uc, .slice none 0 0, .int .i64 upto], .bool true]) (by simp [results, Try.results20, go_sem, q0, q1, q2]) rfl ⟨⟨_, rfl, dUnhide HO⟩, dUnhide HB⟩
  · have hd : ((rs.length : Int) != (ds.length : Int)) = true := by simp; omega
    have eM := dUnhide PN (fun h => hle (by rw [← dUnhide HLN]; exact ((dUnhide PD).1 h).1.1))
    obtain ⟨XE, ZE, NE, BE⟩ := dUnhide K w1 bl1
    have n0 := NE 0 _ rfl
    have n1 := NE 1 _ rfl
    have n2 := NE 2 _ rfl
    obtain ⟨z0, f0⟩ := ZE.2 0 _ rfl
    obtain ⟨z1, f1⟩ := ZE.2 1 _ rfl
    obtain ⟨z2, f2⟩ := ZE.2 2 _ rfl
    obtain ⟨hx, hB⟩ := dUnhide FINZ w1 bl1
    clear XE ZE NE BE K FINZ PN PY C2 C3 C6 CU HOM HNB HLN HV PD HPC CS HAL HBL
    go_wp2
    generalize ((w1.setCell ⟨w.heap.size + 1, 0, none⟩ (.slice none 0 0)).setCell ⟨w.heap.size + 1, 1, none⟩ (.slice none 0 0)).setCell ⟨w.heap.size + 1, 2, none⟩ (.int .i64 0) = V at *
    have q0 := hx 0 _ rfl
    have q1 := hx 1 _ rfl
    have q2 := hx 2 _ rfl
    clear n0 n1 n2 z0 z1 z2 f0 f1 f2 hx
    subst eM
    refine bodyPost_ret (v := .tuple #[.agg #[.slice none 0 0, .slice none 0 0, .int .i64 0], .bool false]) (by simp [results, Try.results20, go_sem, q0, q1, q2]) rfl ⟨⟨_, rfl, OwS.zero V _⟩, hB⟩
theorem specFill_any (cv v lv : Value) (ds : List Int) (cop : Int) (ms : List St) (lost : List Int) (node upto : Int) (w : World) (hc : Ns w cv ds) (hv : RdStoreS v ms w) (hlo : Ns w lv lost) (hf : ∀ m ∈ ms, fitS m) (hl : sizStoreS ms ≤ 1048576) (hal : allInt lost) (hll : lost.length ≤ 1048576) (had : allInt ds) (hld : ds.length ≤ 1048576) (c0 : -9223372036854775808 ≤ cop) (c1 : cop ≤ 9223372036854775807) (u0 : -9223372036854775808 ≤ upto) (u1 : upto ≤ 9223372036854775807) :
    Calls Try.prog 20 #[.agg #[cv, .int .i64 cop], v, lv, .int .i64 node, .int .i64 upto] w fun r w' => (∃ u, r = .returned (.tuple #[u, .bool (fillM ds cop ms lost node upto).2]) ∧ OwS w' w.heap.size u (fillM ds cop ms lost node upto).1) ∧ Below w.heap.size w w' :=
  specFill_q cv v lv ds cop ms lost node upto w hc hv hlo hf (smlU_of hl) hal hll had hld c0 c1 u0 u1
end Go.Proofs.Ytejmfohkobhidaa
