/- The walk of the law FnUnion (printed by tools/mkl11u.py). -/
import Derived.Test.YtoeamgcoeoaijaaUdA
import Derived.Test.YtoeamgcoeoaijaaUnF
import Derived.Test.YtoeamgcoeoaijaaUnU
import Derived.Test.YtoeamgcoeoaijaaImFm
import Derived.Test.YtoeamgcoeoaijaaStR
import Derived.Test.YtoeamgcoeoaijaaBigB
import Derived.Test.YtoeamgcoeoaijaaGaA
import Derived.BigQuiet
import Derived.Deep.DeepCutAuto
namespace Go.Proofs.Ytoeamgcoeoaijaa
open Go.ChangeShapes Go.WideShapes Go.ChangeAt Go.RowKit
set_option linter.unusedVariables false
set_option linter.unusedSimpArgs false
set_option maxRecDepth 100000

theorem withinPlace_any (v : Value) (es : List Ent) (y : Int) (w : World) (hv : Rw 4 Ent.cl w v es) :
    Calls Try.prog 14 #[v, .int .i64 y] w fun e w' => RetB (∃ o ∈ es, o.pl = y) e ∧ w' = w := by
  have HV := dHide hv
  obtain ⟨h0, a, cap, rfl, -, -⟩ := hv
  go_enter Try.func14, Try.ntmps14
  go_wp2
  go_loop [5] (fun x => ∃ k : Nat, x = .int .i64 (k : Int) ∧ k ≤ es.length ∧ Hid (∀ i (h : i < es.length), i < k → es[i].pl ≠ y)) (fun x => es.length - (intOf x).toNat)
  case atStart => exact ⟨0, rfl, Nat.zero_le _, fun i h h' => by omega⟩
  case round =>
    obtain ⟨k, rfl, hk, hinv⟩ := hrel
    by_cases hlt : (k : Int) < (es.length : Int)
    · have hkl : k < es.length := by omega
      obtain ⟨b, off, rfl, hc⟩ := Rw.ent (dUnhide HV) hkl
      obtain ⟨c1, -, -, -⟩ := hc k hkl
      obtain ⟨x, hx⟩ : ∃ x, es[k].pl = x := ⟨_, rfl⟩
      have HX := dHide hx
      rw [hx] at c1
      clear hx hc
      by_cases hxy : x = y
      · have hxy' : (x == y) = true := by simp [hxy]
        have hyes : Hid (∃ o ∈ es, o.pl = y) := ⟨_, List.getElem_mem hkl, by rw [dUnhide HX]; exact hxy⟩
        have R := dHide (RetB.yes (dUnhide hyes))
        clear hinv HX HV hxy hyes
        go_wp2
        go_ret
        exact ⟨dUnhide R, rfl⟩
      · have hxy' : (x == y) = false := by simp [hxy]
        have hst : Hid (∀ i (h : i < es.length), i < k + 1 → es[i].pl ≠ y) := fun i h h' => by
          rcases Nat.lt_or_ge i k with hlt' | hge
          · exact dUnhide hinv i h hlt'
          · obtain rfl : i = k := by omega
            rw [dUnhide HX]
            exact hxy
        clear hinv HX HV hxy
        go_wp2
        go_round
        case rel => exact ⟨k + 1, by go_num, by omega, hst⟩
        case measure => simp [intOf]; omega
    · have hno : Hid (¬ ∃ o ∈ es, o.pl = y) := fun ⟨o, ho, e⟩ => by
        obtain ⟨i, hi, rfl⟩ := List.getElem_of_mem ho
        exact dUnhide hinv i hi (by omega) e
      have R := dHide (RetB.no (dUnhide hno))
      clear hinv HV hno
      go_wp2
      go_ret
      exact ⟨dUnhide R, rfl⟩
theorem toList_ne {a b : ByteArray} (h : a ≠ b) : (a.toList == b.toList) = false := by
  obtain ⟨⟨x⟩⟩ := a
  obtain ⟨⟨y⟩⟩ := b
  rw [ByteArray.toList_eq, ByteArray.toList_eq]
  exact beq_eq_false_iff_ne.2 fun e => h (by
    have e' : x = y := e
    rw [e'])
/-- Whether a flag tells. -/
def SbIs (sb : Bool) (P : Prop) : Prop := sb = true ↔ P
/-- What is said of the union of placed stores. -/
def UnFact (rs : List Ps) (U : List Ent) : Prop :=
  (∀ i (hi : i < U.length) k (hk : k < rs.length) e, getL rs[k].m.kept U[i].pl = some e → ¬ U[i].wave < e.wave) ∧
  (∀ i (hi : i < U.length), ∃ k, ∃ hk : k < rs.length, getL rs[k].m.kept U[i].pl = some U[i]) ∧
  (∀ i (hi : i + 1 < U.length), U[i].pl < U[i + 1].pl) ∧
  (∀ k (hk : k < rs.length) j (hj : j < rs[k].m.kept.length), ∃ q ∈ U, q.pl = rs[k].m.kept[j].pl)
theorem unFact {rs : List Ps} {U : List Ent} (hall : ∀ m ∈ rs.map Ps.m, stP m) (e : U = unL (kepts (rs.map Ps.m))) : UnFact rs U := by
  subst e
  obtain ⟨q1, q2, q3, q4⟩ := unF (rs.map Ps.m) hall
  have gm : ∀ k (hk : k < rs.length), ((rs.map Ps.m)[k]'(by simpa using hk)) = rs[k].m := fun k hk => by rw [List.getElem_map]
  refine ⟨fun i hi k hk e he => q1 i hi k (by simpa using hk) e (by rw [gm k hk]; exact he), fun i hi => ?_, q3, fun k hk j hj => ?_⟩
  · obtain ⟨k, hk, e⟩ := q2 i hi
    have hk' : k < rs.length := by simpa using hk
    exact ⟨k, hk', by rw [← gm k hk']; exact e⟩
  · obtain ⟨q, hq, e⟩ := q4 k (by simpa using hk) j (by rw [gm k hk]; exact hj)
    refine ⟨q, hq, ?_⟩
    rw [e]
    simp only [List.getElem_map]
theorem sumQ_300 (ms : List St) (h : ∀ m ∈ ms, m.kept.length ≤ 300) : sumQ (kepts ms) ≤ 300 * ms.length := by
  induction ms with
  | nil => simp [sumQ, kepts]
  | cons m l ih =>
    have e1 : sumQ (kepts (m :: l)) = m.kept.length + sumQ (kepts l) := by simp [sumQ, kepts]
    have h1 := h m (by simp)
    have h2 := ih fun m hm => h m (by simp [hm])
    rw [e1, List.length_cons]
    omega
set_option maxHeartbeats 8000000 in
theorem walkFnUnion (a0 : Option Addr) (len0 cap0 : Nat) (z0 : List Int) (w : World) (w0 : IsRow .u8 w a0 len0 cap0 z0) :
    Calls Try.prog 3 #[.slice a0 len0 cap0] w fun e w' => e = .returned (.bool true) ∧ Below w.heap.size w w' := by
  have hr := row8_of w0
  have hlen := hr.1
  clear w0
  by_cases hbig : 1048576 < len0
  · have CB := dHide (big_yes a0 len0 cap0 hbig hlen)
    go_enter Try.func3, Try.ntmps3
    go_wp2_with fail
    refine (dUnhide CB _).mono ?_
    rintro e w1 ⟨rfl, rfl⟩
    go_wp2
    go_ret
    exact ⟨rfl, Below.refl _ _⟩
  have CB := dHide (big_no a0 len0 cap0 hbig)
  have CD := dHide (drawUnion_any a0 len0 cap0 w hr)
  have ba : ∀ (w : World) o, Below w.heap.size w (w.alloc o) := fun w o => (Below.refl _ _).alloc (Nat.le_refl _) o
  clear hr
  go_enter Try.func3, Try.ntmps3
  go_wp2_with fail
  refine (dUnhide CB _).mono ?_
  rintro e w0 ⟨rfl, rfl⟩
  clear CB
  go_wp2_with fail
  refine (dUnhide CD).mono ?_
  rintro e w1 ⟨⟨o, n, hn, rfl, rs, hrl, hr1, hp⟩, b1⟩
  clear CD hbig hlen
  have hrl4 : rs.length ≤ 4 := by omega
  clear hrl
  have HSS : Hid (∀ W, Below w1.heap.size w1 W → RdStoreS o (rs.map Ps.m) W) := fun W hb => ⟨rs, rfl, hr1.below hb, fun p hq => (hp p hq).1.below hb⟩
  have hfit : ∀ m ∈ rs.map Ps.m, fitS m := fun m hm => by
    obtain ⟨p, hq, rfl⟩ := List.mem_map.1 hm
    exact (hp p hq).2.1
  have hsm : (rs.map Ps.m).length + sumQ (kepts (rs.map Ps.m)) ≤ 1048576 := by
    have := sumQ_300 (rs.map Ps.m) fun m hm => by
      obtain ⟨p, hq, rfl⟩ := List.mem_map.1 hm
      exact (hp p hq).2.2.1
    rw [List.length_map] at this ⊢
    omega
  have CI := dHide fun W (hb : Below w1.heap.size w1 W) => implUnion_any o _ W (dUnhide HSS W hb) hfit hsm
  have CP := dHide fun W (hb : Below w1.heap.size w1 W) => specUnion_any o _ W (dUnhide HSS W hb) hfit hsm
  have CS := dHide fun k (hk : k < rs.length) W (hb : Below w1.heap.size w1 W) => specStoreOk_any (psVal rs[k]) rs[k].m W (((hp _ (List.getElem_mem hk)).1).below hb) (hp _ (List.getElem_mem hk)).2.1
  have CGG := dHide fun k (hk : k < rs.length) x W (hb : Below w1.heap.size w1 W) => implGet_any (psVal rs[k]) rs[k].m x W (((hp _ (List.getElem_mem hk)).1).below hb) (hp _ (List.getElem_mem hk)).2.1
  have HKE := dHide fun k (hk : k < rs.length) W (hb : Below w1.heap.size w1 W) => psVal_kept (((hp _ (List.getElem_mem hk)).1).below hb)
  have HV := dHide fun W (hb : Below w1.heap.size w1 W) => hr1.below hb
  have HKL : Hid (∀ k (hk : k < rs.length), rs[k].m.kept.length ≤ 300) := fun k hk => (hp _ (List.getElem_mem hk)).2.2.1
  have HNO : Hid (∀ k (hk : k < rs.length), ¬ stP rs[k].m → unM (rs.map Ps.m) = []) := fun k hk h => unM_no fun h' => h (h' _ (List.mem_map.2 ⟨_, List.getElem_mem hk, rfl⟩))
  have HYE : Hid ((∀ k (hk : k < rs.length), stP rs[k].m) → UnFact rs (unM (rs.map Ps.m))) := fun h => by
    have hall : ∀ m ∈ rs.map Ps.m, stP m := fun m hm => by
      obtain ⟨p, hq, rfl⟩ := List.mem_map.1 hm
      obtain ⟨i, hi, rfl⟩ := List.getElem_of_mem hq
      exact h i hi
    exact unFact hall (unM_yes hall)
  have hul : (unM (rs.map Ps.m)).length ≤ 1048576 := by
    by_cases h : ∀ m ∈ rs.map Ps.m, stP m
    · rw [unM_yes h]
      have := unL_len (kepts (rs.map Ps.m))
      omega
    · rw [unM_no h]
      simp
  obtain ⟨h0, oa, oc, rfl, -, -⟩ := hr1
  generalize unM (rs.map Ps.m) = UM at *
  clear hp hfit hsm HSS
  go_wp2_with fail
  refine (dUnhide CI w1 (Below.refl _ _)).mono ?_
  rintro e w2 ⟨⟨u, rfl, A2⟩, b2⟩
  obtain ⟨ua, uc, rfl⟩ := ApR.slice elemE A2
  clear CI
  go_wp2_with fail
  refine (dUnhide CP w2 b2).mono ?_
  rintro e w3 ⟨⟨u3, rfl, A3⟩, b3⟩
  have R2 := (ApR.own elemE A2).rw.below b3
  have CE := dHide (sameEntries_yes _ u3 UM w3 R2 (ApR.own elemE A3).rw)
  have b13 := belowThen b2 b3
  obtain ⟨ua3, uc3, rfl⟩ := ApR.slice elemE A3
  clear CP A3 A2
  go_wp2_with fail
  refine (dUnhide CE).mono ?_
  rintro e w4 ⟨rfl, b4⟩
  have HU := dHide fun W (hb : Below w4.heap.size w4 W) => (R2.below b4).below hb
  have b14 := belowThen b13 b4
  have B4 := belowThen b1 b14
  clear CE R2 b4 b13 b3 b2
  go_wp2_with fail
  go_loopw [5] (fun x wr => ∃ k : Nat, x = .int .i64 (k : Int) ∧ k ≤ rs.length ∧ Hid (∀ i (h : i < rs.length), i < k → stP rs[i].m) ∧ Below w4.heap.size w4 wr) (fun x _ => rs.length - (intOf x).toNat)
  case atStart => exact ⟨0, rfl, Nat.zero_le _, fun i h h' => by omega, Below.refl _ _⟩
  case round =>
    obtain ⟨k, rfl, hk, hinv, hb⟩ := hrel
    by_cases hlt : (k : Int) < (rs.length : Int)
    · have hkl : k < rs.length := by omega
      obtain ⟨b, off, rfl, hc⟩ := (dUnhide HV wr (belowThen b14 hb)).ps hkl
      obtain ⟨c0, c1, c2⟩ := hc k hkl
      have CSk := dHide (dUnhide CS k hkl wr (belowThen b14 hb))
      have GN := dHide (dUnhide HNO k hkl)
      have GY : Hid (stP rs[k].m → ∀ i (h : i < rs.length), i < k + 1 → stP rs[i].m) := fun he i h h' => by
        rcases Nat.lt_or_ge i k with hlt' | hge
        · exact dUnhide hinv i h hlt'
        · obtain rfl : i = k := by omega
          exact he
      unfold psVal at CSk
      generalize rs[k] = y at *
      obtain ⟨ya, yc, za, zc, m⟩ := y
      simp only at *
      clear hc hinv
      generalize stP m = PP at *
      go_wp2_with fail
      refine (dUnhide CSk).mono ?_
      rintro r w5 ⟨⟨b5, rfl, h5⟩, bl5⟩
      have hb5 := belowThen hb bl5
      cases b5
      · have e1 := dUnhide GN fun h => by have := h5.2 h; cases this
        subst e1
        clear GN GY CSk h5 bl5 c0 c1 c2 HYE HNO HV HU HKE CGG CS HKL
        go_wp2
        go_ret
        exact ⟨rfl, belowThen B4 hb5⟩
      · have G := dHide (dUnhide GY (h5.1 rfl))
        clear GN GY CSk h5 bl5 c0 c1 c2
        go_wp2
        go_roundw
        case rel => exact ⟨k + 1, by go_num, by omega, G, hb5⟩
        case measure => simp [intOf]; omega
    · have HALL : Hid (∀ i (h : i < rs.length), stP rs[i].m) := fun i hi => dUnhide hinv i hi (by omega)
      obtain ⟨F1, F2, F3, F4⟩ := dUnhide HYE (dUnhide HALL)
      have HF1 := dHide F1
      have HF2 := dHide F2
      have HF3 := dHide F3
      have HF4 := dHide F4
      have hbL := hb
      clear hinv F1 F2 F3 F4 HYE HNO CS
      go_wp2
      go_loopw [6] (fun x wr => ∃ i : Nat, x = .int .i64 (i : Int) ∧ i ≤ UM.length ∧ Below w4.heap.size w4 wr) (fun x _ => UM.length - (intOf x).toNat)
      case atStart => exact ⟨0, rfl, Nat.zero_le _, hbL⟩
      case round =>
        clear hbL hb
        obtain ⟨i, rfl, hi, hb⟩ := hrel
        by_cases hlti : (i : Int) < (UM.length : Int)
        · have hil : i < UM.length := by omega
          obtain ⟨ub, uo, rfl, hcu⟩ := (dUnhide HU wr hb).ent hil
          have HUX := dHide fun W (hb : Below w4.heap.size w4 W) => by
            obtain ⟨ub', uo', e', hc'⟩ := (dUnhide HU W hb).ent hil
            cases e'
            exact hc' i hil
          have HUP : Hid (∀ W, Below w4.heap.size w4 W → 0 < i → W.cell? ⟨ub, uo + (i - 1) * 4, none⟩ = some (.int .i64 (UM[i - 1]'(by omega)).pl)) := fun W hb h0 => by
            obtain ⟨ub', uo', e', hc'⟩ := (dUnhide HU W hb).ent hil
            cases e'
            exact (hc' (i - 1) (by omega)).1
          have HFP : Hid (∀ (h0 : 0 < i), (UM[i - 1]'(by omega)).pl < UM[i].pl) := fun h0 => by
            have q := dUnhide HF3 (i - 1) (by omega)
            have e : i - 1 + 1 = i := by omega
            simp only [e] at q
            exact q
          have HF1i := dHide (dUnhide HF1 i hil)
          have HF2i := dHide (dUnhide HF2 i hil)
          generalize hX : UM[i] = x at *
          clear hcu hX
          go_wp2
          go_loopw [7, 8] (fun s x' wr => ∃ (k : Nat) (sb : Bool), x' = .int .i64 (k : Int) ∧ s = .bool sb ∧ k ≤ rs.length ∧ Hid (SbIs sb (∃ q, ∃ hq : q < rs.length, q < k ∧ getL rs[q].m.kept x.pl = some x)) ∧ Below w4.heap.size w4 wr) (fun _ x' _ => rs.length - (intOf x').toNat)
          case atStart => exact ⟨0, false, rfl, rfl, Nat.zero_le _, ⟨fun h => (by cases h), fun ⟨q, _, h, _⟩ => by omega⟩, hb⟩
          case round =>
            clear hb
            obtain ⟨k, sb, rfl, rfl, hkk, hsb, hb⟩ := hrel
            by_cases hltk : (k : Int) < (rs.length : Int)
            · have hkl : k < rs.length := by omega
              obtain ⟨b, off, rfl, hce⟩ := (dUnhide HV wr (belowThen b14 hb)).ps hkl
              have hE1 := hce k hkl
              have CG0 := dHide fun W (hB : Below wr.heap.size wr W) => dUnhide CGG k hkl x.pl W (belowThen b14 (belowThen hb hB))
              have hgm : getM rs[k].m x.pl = getL rs[k].m.kept x.pl := getM_ok (dUnhide HALL k hkl)
              rw [hgm] at CG0
              have HST : Hid (∀ sb' : Bool, (sb' = true ↔ sb = true ∨ getL rs[k].m.kept x.pl = some x) → SbIs sb' (∃ q, ∃ hq : q < rs.length, q < k + 1 ∧ getL rs[q].m.kept x.pl = some x)) := fun sb' h => by
                have hsb' : sb = true ↔ _ := dUnhide hsb
                show sb' = true ↔ _
                rw [h, hsb']
                constructor
                · rintro (⟨q, hq, h1, h2⟩ | h)
                  · exact ⟨q, hq, by omega, h2⟩
                  · exact ⟨k, hkl, by omega, h⟩
                · rintro ⟨q, hq, h1, h2⟩
                  rcases Nat.lt_or_ge q k with h3 | h3
                  · exact .inl ⟨q, hq, h3, h2⟩
                  · obtain rfl : q = k := by omega
                    exact .inr h2
              have HW1 := dHide (dUnhide HF1i k hkl)
              have HPL : Hid (∀ e, getL rs[k].m.kept x.pl = some e → e.pl = x.pl) := fun e h => (getL_of h).2
              generalize getL rs[k].m.kept x.pl = G at *
              unfold psVal at CG0
              unfold PsAt at hE1
              generalize rs[k] = y at *
              obtain ⟨ya, yc, za, zc, m⟩ := y
              simp only at *
              have PP : Hid (∀ W, Below wr.heap.size wr W → (W.cell? ⟨b, off + k * 3, none⟩ = some (.slice ya m.kept.length yc) ∧ W.cell? ⟨b, off + k * 3 + 1, none⟩ = some (.slice za m.late.length zc) ∧ W.cell? ⟨b, off + k * 3 + 2, none⟩ = some (.int .i64 m.lock)) ∧ W.cell? ⟨ub, uo + i * 4, none⟩ = some (.int .i64 x.pl)) := fun W hB => by
                have cb : ∀ {bb oo : Nat} {vv : Value}, wr.cell? ⟨bb, oo, none⟩ = some vv → W.cell? ⟨bb, oo, none⟩ = some vv := fun {bb oo vv} h => (hB.cell (p := ⟨bb, oo, none⟩) (dCell_lt h)).trans h
                exact ⟨⟨cb hE1.1, cb hE1.2.1, cb hE1.2.2⟩, (dUnhide HUX W (belowThen hb hB)).1⟩
              obtain ⟨⟨c0, c1, c2⟩, c3⟩ := dUnhide PP wr (Below.refl _ _)
              have bdr : Below wr.heap.size wr wr.drew := (Below.refl _ _).drew
              clear hce hE1 hgm hsb
              obtain ⟨ge, gb, hG⟩ : ∃ (ge : Ent) (gb : Bool), findT G = .tuple #[.agg #[.int .i64 ge.pl, .int .i64 ge.wave, .bool ge.hole, .string ge.data], .bool gb] ∧ ((gb = true ∧ G = some ge) ∨ (gb = false ∧ G = none)) := by
                cases G with
                | none => exact ⟨noEnt, false, rfl, .inr ⟨rfl, rfl⟩⟩
                | some e => exact ⟨e, true, rfl, .inl ⟨rfl, rfl⟩⟩
              have CG : Hid (∀ W, Below wr.heap.size wr W → Calls Try.prog 13 #[.agg #[.slice ya m.kept.length yc, .slice za m.late.length zc, .int .i64 m.lock], .int .i64 x.pl] W fun r w' => r = .returned (.tuple #[.agg #[.int .i64 ge.pl, .int .i64 ge.wave, .bool ge.hole, .string ge.data], .bool gb]) ∧ Below W.heap.size W w') := fun W hB => by have q := dUnhide CG0 W hB; rw [hG.1] at q; exact q
              have HG := dHide hG.2
              clear CG0 hG
              go_wp2_with fail
              go_cut [9, 10] (fun s9 s10 wx => ∃ b1, s9 = .pointer (some ⟨b1, 0, none⟩) ∧ s10 = .bool gb ∧ Bx wx b1 [.int .i64 ge.pl, .int .i64 ge.wave, .bool ge.hole, .string ge.data] ∧ Below wr.heap.size wr wx)
              case first =>
                refine wp_region_noPanic ?_
                refine wp_region_held_drew (S := fun W => (W.cell? ⟨b, off + k * 3, none⟩ = some (.slice ya m.kept.length yc) ∧ W.cell? ⟨b, off + k * 3 + 1, none⟩ = some (.slice za m.late.length zc) ∧ W.cell? ⟨b, off + k * 3 + 2, none⟩ = some (.int .i64 m.lock)) ∧ W.cell? ⟨ub, uo + i * 4, none⟩ = some (.int .i64 x.pl)) (by kernel_rfl) (by first | with_reducible exact dUnhide PP _ hwd | exact dUnhide PP _ (Below.refl _ _) | exact dUnhide PP _ bdr | go_keep) (fun hHeld => ?_)
                have hwd : Below wr.heap.size wr wr.drew := (Below.refl _ _).drew
                generalize wr.drew = wd at *
                refine wpAnyH_take (i := 0) (oi := { dst := some 52, op := Op.move (Operand.tmp 3), type := 24, pos := "laws.go:918", after := #[], guard := none }) (v := ?_) rfl (by kernel_rfl) (by kernel_rfl) (by kernel_rfl) (fun _ _ _ h => h) (Or.inl ⟨by rfl, ?_⟩) (by assumption) ?_
                rotate_left 1
                · intro w hSw
                  (try dsimp only at hSw)
                  first | (go_simp; done) | (go_simp; with_reducible rfl)
                try simp only [Act.put, List.setIfInBounds_toArray, List.set_cons_zero, List.set_cons_succ]
                refine wpAnyH_take (i := 1) (oi := { dst := some 53, op := Op.move (Operand.tmp 8), type := 3, pos := "laws.go:918", after := #[], guard := none }) (v := ?_) rfl (by kernel_rfl) (by kernel_rfl) (by kernel_rfl) (fun _ _ _ h => h) (Or.inl ⟨by rfl, ?_⟩) (by assumption) ?_
                rotate_left 1
                · intro w hSw
                  (try dsimp only at hSw)
                  first | (go_simp; done) | (go_simp; with_reducible rfl)
                try simp only [Act.put, List.setIfInBounds_toArray, List.set_cons_zero, List.set_cons_succ]
                refine wpAnyH_take (i := 2) (oi := { dst := some 54, op := Op.indexAddr 24 (Operand.tmp 52) (Operand.tmp 53), type := 0, pos := "laws.go:918", after := #[{ on := 0, ground := Ground.data }, { on := 1, ground := Ground.data }], guard := none }) (v := ?_) rfl (by kernel_rfl) (by kernel_rfl) (by kernel_rfl) (fun _ _ _ h => h) (Or.inl ⟨by rfl, ?_⟩) (by assumption) ?_
                rotate_left 1
                · intro w hSw
                  (try dsimp only at hSw)
                  first | (go_simp; done) | (go_simp; with_reducible rfl)
                try simp only [Act.put, List.setIfInBounds_toArray, List.set_cons_zero, List.set_cons_succ]
                refine wpAnyH_take (i := 3) (oi := { dst := some 55, op := Op.load 31 (Operand.tmp 54), type := 31, pos := "laws.go:918", after := #[{ on := 2, ground := Ground.data }], guard := none }) (v := ?_) rfl (by kernel_rfl) (by kernel_rfl) (by kernel_rfl) (fun _ _ _ h => h) (Or.inl ⟨by rfl, ?_⟩) (by assumption) ?_
                rotate_left 1
                · intro w hSw
                  (try dsimp only at hSw)
                  first | (go_simp; done) | (go_simp; with_reducible rfl)
                try simp only [Act.put, List.setIfInBounds_toArray, List.set_cons_zero, List.set_cons_succ]
                refine wpAnyH_take (i := 4) (oi := { dst := some 56, op := Op.move (Operand.tmp 4), type := 26, pos := "laws.go:918", after := #[], guard := none }) (v := ?_) rfl (by kernel_rfl) (by kernel_rfl) (by kernel_rfl) (fun _ _ _ h => h) (Or.inl ⟨by rfl, ?_⟩) (by assumption) ?_
                rotate_left 1
                · intro w hSw
                  (try dsimp only at hSw)
                  first | (go_simp; done) | (go_simp; with_reducible rfl)
                try simp only [Act.put, List.setIfInBounds_toArray, List.set_cons_zero, List.set_cons_succ]
                refine wpAnyH_take (i := 5) (oi := { dst := some 57, op := Op.move (Operand.tmp 6), type := 3, pos := "laws.go:918", after := #[], guard := none }) (v := ?_) rfl (by kernel_rfl) (by kernel_rfl) (by kernel_rfl) (fun _ _ _ h => h) (Or.inl ⟨by rfl, ?_⟩) (by assumption) ?_
                rotate_left 1
                · intro w hSw
                  (try dsimp only at hSw)
                  first | (go_simp; done) | (go_simp; with_reducible rfl)
                try simp only [Act.put, List.setIfInBounds_toArray, List.set_cons_zero, List.set_cons_succ]
                refine wpAnyH_take (i := 6) (oi := { dst := some 58, op := Op.indexAddr 26 (Operand.tmp 56) (Operand.tmp 57), type := 0, pos := "laws.go:918", after := #[{ on := 4, ground := Ground.data }, { on := 5, ground := Ground.data }], guard := none }) (v := ?_) rfl (by kernel_rfl) (by kernel_rfl) (by kernel_rfl) (fun _ _ _ h => h) (Or.inl ⟨by rfl, ?_⟩) (by assumption) ?_
                rotate_left 1
                · intro w hSw
                  (try dsimp only at hSw)
                  first | (go_simp; done) | (go_simp; with_reducible rfl)
                try simp only [Act.put, List.setIfInBounds_toArray, List.set_cons_zero, List.set_cons_succ]
                refine wpAnyH_take (i := 7) (oi := { dst := some 59, op := Op.fieldAddr 33 (Operand.tmp 58) 0, type := 0, pos := "laws.go:918", after := #[{ on := 6, ground := Ground.data }], guard := none }) (v := ?_) rfl (by kernel_rfl) (by kernel_rfl) (by kernel_rfl) (fun _ _ _ h => h) (Or.inl ⟨by rfl, ?_⟩) (by assumption) ?_
                rotate_left 1
                · intro w hSw
                  (try dsimp only at hSw)
                  first | (go_simp; done) | (go_simp; with_reducible rfl)
                try simp only [Act.put, List.setIfInBounds_toArray, List.set_cons_zero, List.set_cons_succ]
                refine wpAnyH_take (i := 8) (oi := { dst := some 60, op := Op.load 3 (Operand.tmp 59), type := 3, pos := "laws.go:918", after := #[{ on := 7, ground := Ground.data }], guard := none }) (v := ?_) rfl (by kernel_rfl) (by kernel_rfl) (by kernel_rfl) (fun _ _ _ h => h) (Or.inl ⟨by rfl, ?_⟩) (by assumption) ?_
                rotate_left 1
                · intro w hSw
                  (try dsimp only at hSw)
                  first | (go_simp; done) | (go_simp; with_reducible rfl)
                try simp only [Act.put, List.setIfInBounds_toArray, List.set_cons_zero, List.set_cons_succ]
                refine wpAnyH_ready (rs := [9, 13]) (by kernel_rfl) (by simp) ?_
                refine AllReadyH.cons (o := { dst := some 61, op := Op.call { callee := Callee.value (Operand.func 13), args := #[Operand.tmp 55, Operand.tmp 60], argTypes := #[31, 3] }, type := 34, pos := "laws.go:918", after := #[{ on := 3, ground := Ground.data }, { on := 8, ground := Ground.data }], guard := none }) rfl (fun K hK => ?_) (AllReadyH.cons (o := { dst := some 9, op := Op.alloc 33, type := 0, pos := "laws.go:918", after := #[], guard := none }) rfl (fun K hK => ?_) AllReadyH.nil)
                · go_simp
                  refine (dUnhide CG _ hwd).mono ?_
                  rintro r wn ⟨rfl, bn⟩
                  try replace N1 := N1.below bn
                  try (replace lt1 : b1 < wn.heap.size := by have := bn.size; omega)
                  replace hwd := belowThen hwd bn
                  clear bn
                  generalize wn = wd at *
                  (try go_wp2_with fail)
                  refine hK.out _ _ (by first | with_reducible exact dUnhide PP _ hwd | exact dUnhide PP _ (Below.refl _ _) | exact dUnhide PP _ bdr | go_keep) (fun hHeld => ?_)
                  clear hK K
                  try simp only [Act.put, List.setIfInBounds_toArray, List.set_cons_zero, List.set_cons_succ]
                  refine wpAnyH_take (i := 10) (oi := { dst := some 51, op := Op.move (Operand.tmp 61), type := 34, pos := "laws.go:918", after := #[{ on := 9, ground := Ground.data }], guard := none }) (v := ?_) rfl (by kernel_rfl) (by kernel_rfl) (by kernel_rfl) (fun _ _ _ h => h) (Or.inl ⟨by rfl, ?_⟩) (by assumption) ?_
                  rotate_left 1
                  · intro w hSw
                    (try dsimp only at hSw)
                    first | (go_simp; done) | (go_simp; with_reducible rfl)
                  try simp only [Act.put, List.setIfInBounds_toArray, List.set_cons_zero, List.set_cons_succ]
                  refine wpAnyH_take (i := 11) (oi := { dst := some 62, op := Op.extract (Operand.tmp 51) 0, type := 33, pos := "laws.go:918", after := #[{ on := 10, ground := Ground.data }], guard := none }) (v := ?_) rfl (by kernel_rfl) (by kernel_rfl) (by kernel_rfl) (fun _ _ _ h => h) (Or.inl ⟨by rfl, ?_⟩) (by assumption) ?_
                  rotate_left 1
                  · intro w hSw
                    (try dsimp only at hSw)
                    first | (go_simp; done) | (go_simp; with_reducible rfl)
                  try simp only [Act.put, List.setIfInBounds_toArray, List.set_cons_zero, List.set_cons_succ]
                  refine wpAnyH_take (i := 12) (oi := { dst := some 63, op := Op.extract (Operand.tmp 51) 1, type := 4, pos := "laws.go:918", after := #[{ on := 10, ground := Ground.data }, { on := 14, ground := Ground.gcOnly Departure.lateStores }], guard := none }) (v := ?_) rfl (by kernel_rfl) (by kernel_rfl) (by kernel_rfl) (fun _ _ _ h => h) (Or.inl ⟨by rfl, ?_⟩) (by assumption) ?_
                  rotate_left 1
                  · intro w hSw
                    (try dsimp only at hSw)
                    first | (go_simp; done) | (go_simp; with_reducible rfl)
                  try simp only [Act.put, List.setIfInBounds_toArray, List.set_cons_zero, List.set_cons_succ]
                  refine wpAnyH_ready (rs := [13]) (by kernel_rfl) (by simp) ?_
                  refine AllReadyH.cons (o := { dst := some 9, op := Op.alloc 33, type := 0, pos := "laws.go:918", after := #[], guard := none }) rfl (fun K hK => ?_) AllReadyH.nil
                  go_simp
                  have N1 := BxZ.new (B := 0) wd [.int .i64 0, .int .i64 0, .bool false, .string ⟨#[]⟩] 33 (Nat.zero_le _)
                  have es : (wd.alloc (.cells #[.int .i64 0, .int .i64 0, .bool false, .string ⟨#[]⟩] 33)).heap.size = wd.heap.size + 1 := by simp
                  have ln1 : wr.heap.size ≤ wd.heap.size := hwd.size
                  replace hwd := belowThen hwd (ba wd (.cells #[.int .i64 0, .int .i64 0, .bool false, .string ⟨#[]⟩] 33))
                  have lt1 : wd.heap.size < (wd.alloc (.cells #[.int .i64 0, .int .i64 0, .bool false, .string ⟨#[]⟩] 33)).heap.size := by omega
                  clear es
                  generalize wd.heap.size = b1 at *
                  generalize wd.alloc (.cells #[.int .i64 0, .int .i64 0, .bool false, .string ⟨#[]⟩] 33) = wd at *
                  refine hK.out _ _ (by first | with_reducible exact dUnhide PP _ hwd | exact dUnhide PP _ (Below.refl _ _) | exact dUnhide PP _ bdr | go_keep) (fun hHeld => ?_)
                  clear hK K
                  try simp only [Act.put, List.setIfInBounds_toArray, List.set_cons_zero, List.set_cons_succ]
                  refine wpAnyH_ready (rs := [14]) (by kernel_rfl) (by simp) ?_
                  refine AllReadyH.cons (o := { dst := none, op := Op.store 33 (Operand.tmp 9) (Operand.tmp 62), type := 0, pos := "laws.go:918", after := #[{ on := 13, ground := Ground.data }, { on := 11, ground := Ground.data }, { on := 9, ground := Ground.chain }, { on := 0, ground := Ground.phase }, { on := 1, ground := Ground.phase }, { on := 2, ground := Ground.phase }, { on := 3, ground := Ground.phase }, { on := 4, ground := Ground.phase }, { on := 5, ground := Ground.phase }, { on := 6, ground := Ground.phase }, { on := 7, ground := Ground.phase }, { on := 8, ground := Ground.phase }, { on := 9, ground := Ground.phase }, { on := 10, ground := Ground.phase }, { on := 11, ground := Ground.phase }, { on := 12, ground := Ground.textOnly Departure.lateStores }, { on := 13, ground := Ground.phase }], guard := none }) rfl (fun K hK => ?_) AllReadyH.nil
                  obtain ⟨g0, h0⟩ := N1.2 0 _ rfl
                  obtain ⟨g1, h1⟩ := N1.2 1 _ rfl
                  obtain ⟨g2, h2⟩ := N1.2 2 _ rfl
                  obtain ⟨g3, h3⟩ := N1.2 3 _ rfl
                  go_simp
                  have M1 := (((N1.put 0 (.int .i64 ge.pl)).put 1 (.int .i64 ge.wave)).put 2 (.bool ge.hole)).put 3 (.string ge.data)
                  replace hwd := (((hwd.setCell (p := ⟨b1, 0, none⟩) ln1 (.int .i64 ge.pl)).setCell (p := ⟨b1, 1, none⟩) ln1 (.int .i64 ge.wave)).setCell (p := ⟨b1, 2, none⟩) ln1 (.bool ge.hole)).setCell (p := ⟨b1, 3, none⟩) ln1 (.string ge.data)
                  clear g0 g1 g2 g3 h0 h1 h2 h3
                  generalize (((wd.setCell ⟨b1, 0, none⟩ (.int .i64 ge.pl)).setCell ⟨b1, 1, none⟩ (.int .i64 ge.wave)).setCell ⟨b1, 2, none⟩ (.bool ge.hole)).setCell ⟨b1, 3, none⟩ (.string ge.data) = wd at *
                  refine hK.out _ _ (by first | with_reducible exact dUnhide PP _ hwd | exact dUnhide PP _ (Below.refl _ _) | exact dUnhide PP _ bdr | go_keep) (fun hHeld => ?_)
                  clear hK K
                  try simp only [Act.put, List.setIfInBounds_toArray, List.set_cons_zero, List.set_cons_succ]
                  refine wpAnyH_take (i := 15) (oi := { dst := some 10, op := Op.assign (Operand.tmp 63), type := 4, pos := "laws.go:918", after := #[{ on := 12, ground := Ground.data }, { on := 14, ground := Ground.chain }, { on := 0, ground := Ground.phase }, { on := 1, ground := Ground.phase }, { on := 2, ground := Ground.phase }, { on := 3, ground := Ground.phase }, { on := 4, ground := Ground.phase }, { on := 5, ground := Ground.phase }, { on := 6, ground := Ground.phase }, { on := 7, ground := Ground.phase }, { on := 8, ground := Ground.phase }, { on := 9, ground := Ground.phase }, { on := 10, ground := Ground.phase }, { on := 11, ground := Ground.phase }, { on := 12, ground := Ground.phase }, { on := 13, ground := Ground.phase }, { on := 14, ground := Ground.phase }], guard := none }) (v := ?_) rfl (by kernel_rfl) (by kernel_rfl) (by kernel_rfl) (fun _ _ _ h => h) (Or.inl ⟨by rfl, ?_⟩) (by assumption) ?_
                  rotate_left 1
                  · intro w hSw
                    (try dsimp only at hSw)
                    first | (go_simp; done) | (go_simp; with_reducible rfl)
                  try simp only [Act.put, List.setIfInBounds_toArray, List.set_cons_zero, List.set_cons_succ]
                  refine wpAnyH_done (by kernel_rfl) ?_ _
                  refine NoPanic.normal ?_
                  go_wp2_with fail
                  go_meet
                  case rel => exact ⟨b1, rfl, rfl, M1.bx, hwd⟩
                · go_simp
                  have N1 := BxZ.new (B := 0) wd [.int .i64 0, .int .i64 0, .bool false, .string ⟨#[]⟩] 33 (Nat.zero_le _)
                  have es : (wd.alloc (.cells #[.int .i64 0, .int .i64 0, .bool false, .string ⟨#[]⟩] 33)).heap.size = wd.heap.size + 1 := by simp
                  have ln1 : wr.heap.size ≤ wd.heap.size := hwd.size
                  replace hwd := belowThen hwd (ba wd (.cells #[.int .i64 0, .int .i64 0, .bool false, .string ⟨#[]⟩] 33))
                  have lt1 : wd.heap.size < (wd.alloc (.cells #[.int .i64 0, .int .i64 0, .bool false, .string ⟨#[]⟩] 33)).heap.size := by omega
                  clear es
                  generalize wd.heap.size = b1 at *
                  generalize wd.alloc (.cells #[.int .i64 0, .int .i64 0, .bool false, .string ⟨#[]⟩] 33) = wd at *
                  refine hK.out _ _ (by first | with_reducible exact dUnhide PP _ hwd | exact dUnhide PP _ (Below.refl _ _) | exact dUnhide PP _ bdr | go_keep) (fun hHeld => ?_)
                  clear hK K
                  try simp only [Act.put, List.setIfInBounds_toArray, List.set_cons_zero, List.set_cons_succ]
                  refine wpAnyH_ready (rs := [9]) (by kernel_rfl) (by simp) ?_
                  refine AllReadyH.cons (o := { dst := some 61, op := Op.call { callee := Callee.value (Operand.func 13), args := #[Operand.tmp 55, Operand.tmp 60], argTypes := #[31, 3] }, type := 34, pos := "laws.go:918", after := #[{ on := 3, ground := Ground.data }, { on := 8, ground := Ground.data }], guard := none }) rfl (fun K hK => ?_) AllReadyH.nil
                  go_simp
                  refine (dUnhide CG _ hwd).mono ?_
                  rintro r wn ⟨rfl, bn⟩
                  try replace N1 := N1.below bn
                  try (replace lt1 : b1 < wn.heap.size := by have := bn.size; omega)
                  replace hwd := belowThen hwd bn
                  clear bn
                  generalize wn = wd at *
                  (try go_wp2_with fail)
                  refine hK.out _ _ (by first | with_reducible exact dUnhide PP _ hwd | exact dUnhide PP _ (Below.refl _ _) | exact dUnhide PP _ bdr | go_keep) (fun hHeld => ?_)
                  clear hK K
                  try simp only [Act.put, List.setIfInBounds_toArray, List.set_cons_zero, List.set_cons_succ]
                  refine wpAnyH_take (i := 10) (oi := { dst := some 51, op := Op.move (Operand.tmp 61), type := 34, pos := "laws.go:918", after := #[{ on := 9, ground := Ground.data }], guard := none }) (v := ?_) rfl (by kernel_rfl) (by kernel_rfl) (by kernel_rfl) (fun _ _ _ h => h) (Or.inl ⟨by rfl, ?_⟩) (by assumption) ?_
                  rotate_left 1
                  · intro w hSw
                    (try dsimp only at hSw)
                    first | (go_simp; done) | (go_simp; with_reducible rfl)
                  try simp only [Act.put, List.setIfInBounds_toArray, List.set_cons_zero, List.set_cons_succ]
                  refine wpAnyH_take (i := 11) (oi := { dst := some 62, op := Op.extract (Operand.tmp 51) 0, type := 33, pos := "laws.go:918", after := #[{ on := 10, ground := Ground.data }], guard := none }) (v := ?_) rfl (by kernel_rfl) (by kernel_rfl) (by kernel_rfl) (fun _ _ _ h => h) (Or.inl ⟨by rfl, ?_⟩) (by assumption) ?_
                  rotate_left 1
                  · intro w hSw
                    (try dsimp only at hSw)
                    first | (go_simp; done) | (go_simp; with_reducible rfl)
                  try simp only [Act.put, List.setIfInBounds_toArray, List.set_cons_zero, List.set_cons_succ]
                  refine wpAnyH_take (i := 12) (oi := { dst := some 63, op := Op.extract (Operand.tmp 51) 1, type := 4, pos := "laws.go:918", after := #[{ on := 10, ground := Ground.data }, { on := 14, ground := Ground.gcOnly Departure.lateStores }], guard := none }) (v := ?_) rfl (by kernel_rfl) (by kernel_rfl) (by kernel_rfl) (fun _ _ _ h => h) (Or.inl ⟨by rfl, ?_⟩) (by assumption) ?_
                  rotate_left 1
                  · intro w hSw
                    (try dsimp only at hSw)
                    first | (go_simp; done) | (go_simp; with_reducible rfl)
                  try simp only [Act.put, List.setIfInBounds_toArray, List.set_cons_zero, List.set_cons_succ]
                  refine wpAnyH_ready (rs := [14]) (by kernel_rfl) (by simp) ?_
                  refine AllReadyH.cons (o := { dst := none, op := Op.store 33 (Operand.tmp 9) (Operand.tmp 62), type := 0, pos := "laws.go:918", after := #[{ on := 13, ground := Ground.data }, { on := 11, ground := Ground.data }, { on := 9, ground := Ground.chain }, { on := 0, ground := Ground.phase }, { on := 1, ground := Ground.phase }, { on := 2, ground := Ground.phase }, { on := 3, ground := Ground.phase }, { on := 4, ground := Ground.phase }, { on := 5, ground := Ground.phase }, { on := 6, ground := Ground.phase }, { on := 7, ground := Ground.phase }, { on := 8, ground := Ground.phase }, { on := 9, ground := Ground.phase }, { on := 10, ground := Ground.phase }, { on := 11, ground := Ground.phase }, { on := 12, ground := Ground.textOnly Departure.lateStores }, { on := 13, ground := Ground.phase }], guard := none }) rfl (fun K hK => ?_) AllReadyH.nil
                  obtain ⟨g0, h0⟩ := N1.2 0 _ rfl
                  obtain ⟨g1, h1⟩ := N1.2 1 _ rfl
                  obtain ⟨g2, h2⟩ := N1.2 2 _ rfl
                  obtain ⟨g3, h3⟩ := N1.2 3 _ rfl
                  go_simp
                  have M1 := (((N1.put 0 (.int .i64 ge.pl)).put 1 (.int .i64 ge.wave)).put 2 (.bool ge.hole)).put 3 (.string ge.data)
                  replace hwd := (((hwd.setCell (p := ⟨b1, 0, none⟩) ln1 (.int .i64 ge.pl)).setCell (p := ⟨b1, 1, none⟩) ln1 (.int .i64 ge.wave)).setCell (p := ⟨b1, 2, none⟩) ln1 (.bool ge.hole)).setCell (p := ⟨b1, 3, none⟩) ln1 (.string ge.data)
                  clear g0 g1 g2 g3 h0 h1 h2 h3
                  generalize (((wd.setCell ⟨b1, 0, none⟩ (.int .i64 ge.pl)).setCell ⟨b1, 1, none⟩ (.int .i64 ge.wave)).setCell ⟨b1, 2, none⟩ (.bool ge.hole)).setCell ⟨b1, 3, none⟩ (.string ge.data) = wd at *
                  refine hK.out _ _ (by first | with_reducible exact dUnhide PP _ hwd | exact dUnhide PP _ (Below.refl _ _) | exact dUnhide PP _ bdr | go_keep) (fun hHeld => ?_)
                  clear hK K
                  try simp only [Act.put, List.setIfInBounds_toArray, List.set_cons_zero, List.set_cons_succ]
                  refine wpAnyH_take (i := 15) (oi := { dst := some 10, op := Op.assign (Operand.tmp 63), type := 4, pos := "laws.go:918", after := #[{ on := 12, ground := Ground.data }, { on := 14, ground := Ground.chain }, { on := 0, ground := Ground.phase }, { on := 1, ground := Ground.phase }, { on := 2, ground := Ground.phase }, { on := 3, ground := Ground.phase }, { on := 4, ground := Ground.phase }, { on := 5, ground := Ground.phase }, { on := 6, ground := Ground.phase }, { on := 7, ground := Ground.phase }, { on := 8, ground := Ground.phase }, { on := 9, ground := Ground.phase }, { on := 10, ground := Ground.phase }, { on := 11, ground := Ground.phase }, { on := 12, ground := Ground.phase }, { on := 13, ground := Ground.phase }, { on := 14, ground := Ground.phase }], guard := none }) (v := ?_) rfl (by kernel_rfl) (by kernel_rfl) (by kernel_rfl) (fun _ _ _ h => h) (Or.inl ⟨by rfl, ?_⟩) (by assumption) ?_
                  rotate_left 1
                  · intro w hSw
                    (try dsimp only at hSw)
                    first | (go_simp; done) | (go_simp; with_reducible rfl)
                  try simp only [Act.put, List.setIfInBounds_toArray, List.set_cons_zero, List.set_cons_succ]
                  refine wpAnyH_done (by kernel_rfl) ?_ _
                  refine NoPanic.normal ?_
                  go_wp2_with fail
                  go_meet
                  case rel => exact ⟨b1, rfl, rfl, M1.bx, hwd⟩
              case rest =>
                obtain ⟨b1, rfl, rfl, M1, bx⟩ := hcut
                generalize wc = wx at *
                have BX := belowThen hb bx
                have s0 := M1 0 _ rfl
                have s1 := M1 1 _ rfl
                have s2 := M1 2 _ rfl
                have s3 := M1 3 _ rfl
                obtain ⟨u0, u1, u2, u3⟩ := dUnhide HUX wx BX
                clear c0 c1 c2 c3 PP CG M1 bdr bx
                rcases dUnhide HG with ⟨rfl, hGe⟩ | ⟨rfl, hGe⟩
                · have dw : decide (x.wave < ge.wave) = false := decide_eq_false (by have := dUnhide HW1 ge hGe; omega)
                  have hpl := dUnhide HPL ge hGe
                  have HSE : Hid (∀ sb' : Bool, (sb' = true ↔ sb = true ∨ ge = x) → SbIs sb' (∃ q, ∃ hq : q < rs.length, q < k + 1 ∧ getL rs[q].m.kept x.pl = some x)) := fun sb' h => dUnhide HST sb' (by rw [h, hGe]; simp)
                  clear HG HW1 HPL HST hGe
                  obtain ⟨gp, gw, gh, gd⟩ := ge
                  obtain ⟨xp, xw, xh, xd⟩ := x
                  simp only at *
                  subst hpl
                  cases sb
                  · have hfour : (gw == xw) = false ∨ ((gw == xw) = true ∧ (gh == xh) = false) ∨ ((gw == xw) = true ∧ (gh == xh) = true ∧ (gd.toList == xd.toList) = false) ∨ (gw = xw ∧ gh = xh ∧ gd = xd) := by
                      by_cases h1 : gw = xw
                      · by_cases h2 : gh = xh
                        · by_cases h3 : gd = xd
                          · exact .inr (.inr (.inr ⟨h1, h2, h3⟩))
                          · refine .inr (.inr (.inl ⟨by simp [h1], by simp [h2], ?_⟩))
                            exact toList_ne h3
                        · exact .inr (.inl ⟨by simp [h1], by simpa using h2⟩)
                      · exact .inl (by simpa using h1)
                    rcases hfour with q1 | ⟨q1, q2⟩ | ⟨q1, q2, q3⟩ | ⟨rfl, rfl, rfl⟩
                    · have G1 := dHide (dUnhide HSE false ⟨fun h => (by cases h), fun h => by
                        rcases h with h | h
                        · cases h
                        · simp only [Ent.mk.injEq] at h
                          rw [h.2.1] at q1
                          simp at q1⟩)
                      clear HSE
                      go_wp2
                      go_quiet (fail)
                      go_wp2
                      go_quiet (fail)
                      go_wp2
                      go_roundw
                      case rel => exact ⟨k + 1, false, by go_num, rfl, by omega, dUnhide G1, (by first | exact below_drewN BX _ | exact below_drewN (below_drewN BX _) _)⟩
                      case measure => simp [intOf]; omega
                    · have G1 := dHide (dUnhide HSE false ⟨fun h => (by cases h), fun h => by
                        rcases h with h | h
                        · cases h
                        · simp only [Ent.mk.injEq] at h
                          rw [h.2.2.1] at q2
                          simp at q2⟩)
                      clear HSE
                      go_wp2
                      go_quiet (fail)
                      go_wp2
                      go_quiet (fail)
                      go_wp2
                      go_roundw
                      case rel => exact ⟨k + 1, false, by go_num, rfl, by omega, dUnhide G1, (by first | exact below_drewN BX _ | exact below_drewN (below_drewN BX _) _)⟩
                      case measure => simp [intOf]; omega
                    · have G1 := dHide (dUnhide HSE false ⟨fun h => (by cases h), fun h => by
                        rcases h with h | h
                        · cases h
                        · simp only [Ent.mk.injEq] at h
                          rw [h.2.2.2] at q3
                          simp at q3⟩)
                      clear HSE
                      go_wp2
                      go_quiet (fail)
                      go_wp2
                      go_quiet (fail)
                      go_wp2
                      go_roundw
                      case rel => exact ⟨k + 1, false, by go_num, rfl, by omega, dUnhide G1, (by first | exact below_drewN BX _ | exact below_drewN (below_drewN BX _) _)⟩
                      case measure => simp [intOf]; omega
                    · have G1 := dHide (dUnhide HSE true ⟨fun _ => .inr rfl, fun _ => rfl⟩)
                      clear HSE
                      go_wp2
                      go_quiet (fail)
                      go_wp2
                      go_quiet (fail)
                      go_wp2
                      go_roundw
                      case rel => exact ⟨k + 1, true, by go_num, rfl, by omega, dUnhide G1, (by first | exact below_drewN BX _ | exact below_drewN (below_drewN BX _) _)⟩
                      case measure => simp [intOf]; omega
                  · have G1 := dHide (dUnhide HSE true ⟨fun _ => .inl rfl, fun _ => rfl⟩)
                    clear HSE
                    go_wp2
                    go_quiet (fail)
                    go_wp2
                    go_quiet (fail)
                    go_wp2
                    go_roundw
                    case rel => exact ⟨k + 1, true, by go_num, rfl, by omega, dUnhide G1, (by first | exact below_drewN BX _ | exact below_drewN (below_drewN BX _) _)⟩
                    case measure => simp [intOf]; omega
                · have G1 := dHide (dUnhide HST sb ⟨fun h => .inl h, fun h => h.resolve_right (by rw [hGe]; simp)⟩)
                  clear HG HW1 HPL HST hGe
                  cases sb
                  all_goals
                    go_wp2
                    go_quiet (fail)
                    go_wp2
                    go_quiet (fail)
                    go_wp2
                    go_roundw
                    case rel => exact ⟨k + 1, _, by go_num, rfl, by omega, dUnhide G1, (by first | exact below_drewN BX _ | exact below_drewN (below_drewN BX _) _)⟩
                    case measure => simp [intOf]; omega
            · have hst : sb = true := (show sb = true ↔ _ from dUnhide hsb).2 (by
                obtain ⟨q, hq, e⟩ := dUnhide HF2i
                exact ⟨q, hq, by omega, e⟩)
              subst hst
              clear hsb HF1i HF2i
              obtain ⟨u0, u1, u2, u3⟩ := dUnhide HUX wr hb
              by_cases h0 : 0 < i
              · have p0 := dUnhide HUP wr hb h0
                have dp := dUnhide HFP h0
                generalize (UM[i - 1]'(by omega)).pl = pp at *
                have dd : decide (x.pl ≤ pp) = false := decide_eq_false (by omega)
                have di : decide ((0 : Int) < (i : Int)) = true := decide_eq_true (by omega)
                have hi1 : ((i : Int) - 1) = ((i - 1 : Nat) : Int) := by omega
                have hiw : IntKind.i64.wrap ((i : Int) - 1) = ((i - 1 : Nat) : Int) := by rw [IntKind.wrap_i64]; omega
                have hib : i - 1 < UM.length := by omega
                have hic : ((i - 1 : Nat) : Int) < (UM.length : Int) := by omega
                have hid : (0 : Int) ≤ ((i - 1 : Nat) : Int) := by omega
                clear HUP HFP dp
                go_wp2
                go_quiet (fail)
                go_wp2
                go_roundw
                case rel => exact ⟨i + 1, by go_num, by omega, below_drewN hb _⟩
                case measure => simp [intOf]; omega
              · obtain rfl : i = 0 := by omega
                clear HUP HFP
                go_wp2
                go_quiet (fail)
                go_wp2
                go_roundw
                case rel => exact ⟨1, by go_num, by omega, below_drewN hb _⟩
                case measure => simp [intOf]; omega
        · clear HF1 HF2 HF3
          go_wp2
          go_loopw [11] (fun x wr => ∃ k : Nat, x = .int .i64 (k : Int) ∧ k ≤ rs.length ∧ Below w4.heap.size w4 wr) (fun x _ => rs.length - (intOf x).toNat)
          case atStart => exact ⟨0, rfl, Nat.zero_le _, hb⟩
          case round =>
            clear hb
            obtain ⟨k, rfl, hkk, hb⟩ := hrel
            by_cases hltk : (k : Int) < (rs.length : Int)
            · have hkl : k < rs.length := by omega
              have HC0 : Hid (∀ W, Below w4.heap.size w4 W → ∃ b off, oa = some ⟨b, off, none⟩ ∧ W.cell? ⟨b, off + k * 3, none⟩ = some (.slice rs[k].ka rs[k].m.kept.length rs[k].kc)) := fun W hB => by
                obtain ⟨b', off', e', hc'⟩ := (dUnhide HV W (belowThen b14 hB)).ps hkl
                exact ⟨b', off', e', (hc' k hkl).1⟩
              have HKk := dHide fun W (hB : Below w4.heap.size w4 W) => dUnhide HKE k hkl W (belowThen b14 hB)
              have HF4k := dHide (dUnhide HF4 k hkl)
              have hkl3 := dUnhide HKL k hkl
              obtain ⟨b, off, rfl, -⟩ := dUnhide HC0 wr hb
              generalize rs[k] = y at *
              obtain ⟨ya, yc, za, zc, es, ls, lk⟩ := y
              simp only at *
              have HC1 : Hid (∀ W, Below w4.heap.size w4 W → W.cell? ⟨b, off + k * 3, none⟩ = some (.slice ya es.length yc)) := fun W hB => by
                obtain ⟨b', off', e', hc'⟩ := dUnhide HC0 W hB
                cases e'
                exact hc'
              clear HC0
              go_wp2
              go_loopw [12] (fun x wq => ∃ j : Nat, x = .int .i64 (j : Int) ∧ j ≤ es.length ∧ Below w4.heap.size w4 wq) (fun x _ => es.length - (intOf x).toNat)
              case atStart => exact ⟨0, rfl, Nat.zero_le _, hb⟩
              case round =>
                clear hb
                obtain ⟨j, rfl, hj, hb⟩ := hrel
                have c0 := dUnhide HC1 _ hb
                by_cases hltj : (j : Int) < (es.length : Int)
                · have hjl : j < es.length := by omega
                  obtain ⟨eb, eo, rfl, hce⟩ := (dUnhide HKk _ hb).ent hjl
                  obtain ⟨e0, -, -, -⟩ := hce j hjl
                  have CW := dHide ((withinPlace_any _ UM es[j].pl wr (dUnhide HU _ hb)).mono fun e w' h => (⟨h.1.of_yes (dUnhide HF4k j hjl), h.2⟩ : e = .returned (.bool true) ∧ w' = wr))
                  generalize es[j].pl = ep at *
                  clear hce
                  go_wp2_with fail
                  refine (dUnhide CW).mono ?_
                  rintro r w9 ⟨rfl, rfl⟩
                  clear CW
                  go_wp2
                  go_roundw
                  case rel => exact ⟨j + 1, by go_num, by omega, hb⟩
                  case measure => simp [intOf]; omega
                · go_wp2
                  go_roundw
                  case rel => exact ⟨k + 1, by go_num, by omega, hb⟩
                  case measure => simp [intOf]; omega
            · clear HF4 HKE HKL HV HU CGG HALL
              go_wp2
              go_ret
              exact ⟨rfl, belowThen B4 hb⟩
end Go.Proofs.Ytoeamgcoeoaijaa
