/- spec's StorePack. -/
import Derived.Test.YtognmmmplmideaaStE
import Derived.Test.YtognmmmplmideaaEntE
namespace Go.Proofs.Ytognmmmplmideaa
open Go.ChangeShapes Go.WideShapes Go.ChangeAt Go.RowKit
set_option linter.unusedVariables false
set_option linter.unusedSimpArgs false
set_option maxRecDepth 100000

/-- An entry as bytes. -/
def packE (e : Ent) : List UInt8 := packB e.pl.toNat e.wave.toNat e.hole e.data.data.toList
/-- A store as bytes. -/
def packS (s : St) : List UInt8 := numB s.lock.toNat ++ numB s.kept.length ++ s.kept.flatMap packE
/-- What may be packed. -/
def packP (s : St) : Prop := stP s ∧ s.late = []
open Classical in
noncomputable def packM (s : St) : List UInt8 × Bool := if packP s then (packS s, true) else ([], false)
theorem packM_yes {s : St} (h : packP s) : packM s = (packS s, true) := if_pos h
theorem packM_no {s : St} (h : ¬ packP s) : packM s = ([], false) := if_neg h
theorem packE_len {e : Ent} (h : entP e) : (packE e).length ≤ 76 := by
  have l1 := numB_len e.pl.toNat
  have l2 := numB_len e.wave.toNat
  have l3 := numB_len (bitN e.hole)
  have l4 := numB_len e.data.data.toList.length
  have hsz : e.data.data.toList.length = e.data.size := by rw [← Lib.size_eq]
  have h5 := h.2.2.2.2.1
  unfold packE packB textB
  simp only [List.length_append]
  omega
theorem flat_take (es : List Ent) (k : Nat) (h : k < es.length) : (es.take (k + 1)).flatMap packE = (es.take k).flatMap packE ++ packE es[k] := by
  rw [List.take_succ_eq_append_getElem h, List.flatMap_append]
  simp
theorem flat_len (es : List Ent) (k : Nat) (h : ∀ e ∈ es, entP e) (hk : k ≤ es.length) : ((es.take k).flatMap packE).length ≤ k * 76 := by
  induction k with
  | zero => simp
  | succ n ih =>
    rw [flat_take es n (by omega), List.length_append]
    have h1 := packE_len (h es[n] (List.getElem_mem _))
    have h2 := ih (by omega)
    omega
set_option maxHeartbeats 4000000 in
theorem specStorePack_row (v : Value) (s : St) (w : World) (hv : Rs w v s) (hf : fitS s) :
    Calls Try.prog 10 #[v] w fun r w' => (∃ u, r = .returned (.tuple #[u, .bool (packM s).2]) ∧ OwnB w' w.heap.size u (packM s).1 ∧ ((packM s).1 ≠ [] → w'.ownsRow w.heap.size 5 1 u (packM s).1.length (bcells (packM s).1))) ∧ Below w.heap.size w w' := by
  have ba : ∀ (w : World) o, Below w.heap.size w (w.alloc o) := fun w o => (Below.refl _ _).alloc (Nat.le_refl _) o
  have C1 := dHide fun W (hb : Below w.heap.size w W) => specStoreOk_any v s W (hv.below hb) hf
  obtain ⟨kv, lv, rfl, rk, rl⟩ := hv
  have HK := dHide fun W (hb : Below w.heap.size w W) => rk.below hb
  obtain ⟨-, ka, kc, rfl, -, -⟩ := rk
  obtain ⟨-, la, lc, rfl, -, -⟩ := rl
  have PY : Hid (packP s → packM s = (packS s, true)) := packM_yes
  have PN : Hid (¬ packP s → packM s = ([], false)) := packM_no
  have PD : Hid (packP s ↔ stP s ∧ s.late = []) := Iff.rfl
  generalize packM s = M at *
  clear hf
  have X0 := Bx.new w [.slice ka s.kept.length kc, .slice la s.late.length lc, .int .i64 s.lock] 26
  have B0 := ba w (.cells #[.slice ka s.kept.length kc, .slice la s.late.length lc, .int .i64 s.lock] 26)
  go_enter Try.func10, Try.ntmps10
  go_wp2_with fail
  generalize w.alloc (.cells #[.slice ka s.kept.length kc, .slice la s.late.length lc, .int .i64 s.lock] 26) = w0 at *
  refine (dUnhide C1 _ B0).mono ?_
  rintro r w1 ⟨hr1, b1⟩
  have B1 := belowThen B0 b1
  have X1 := X0.below b1
  have k0 := X1 0 _ rfl
  have k1 := X1 1 _ rfl
  have k2 := X1 2 _ rfl
  have HX := dHide X1
  clear X0 B0 b1 C1 X1
  by_cases hs : stP s
  · obtain rfl := hr1.of_yes hs
    clear hr1
    by_cases hl : s.late = []
    · have eM := dUnhide PY ((dUnhide PD).2 ⟨hs, hl⟩)
      have hl0 : ¬ (0 : Int) < (s.late.length : Int) := by rw [hl]; simp
      obtain ⟨⟨kl, kE⟩, -, -, s0, s30⟩ := hs
      obtain ⟨n, hn⟩ := Int.eq_ofNat_of_zero_le s0
      have hn30 : n ≤ 30 := by omega
      have FL := dHide fun k hk => flat_len s.kept k kE hk
      have KE := dHide kE
      have PS : Hid (packS s = numB n ++ numB s.kept.length ++ s.kept.flatMap packE) := by rw [Hid, packS, hn]; rfl
      rw [hn] at k2
      have l1 := numB_len n
      have l2 := numB_len s.kept.length
      have HX0 := dHide (dUnhide HX)
      have HC : Hid (∀ W, Below w1.heap.size w1 W → W.cell? ⟨w.heap.size, 0, none⟩ = some (.slice ka s.kept.length kc) ∧ W.cell? ⟨w.heap.size, 2, none⟩ = some (.int .i64 (n : Int))) := fun W hb => ⟨((dUnhide HX).below hb) 0 _ rfl, by have := ((dUnhide HX).below hb) 2 _ rfl; rw [this, hn]⟩
      have HK1 := dHide fun W (hb : Below w1.heap.size w1 W) => dUnhide HK W (belowThen B1 hb)
      have hbr : Below w1.heap.size w1 w1.drew := (Below.refl _ _).drew
      clear hl kE PN PD HX HK hn s0 s30
      subst eM
      clear PY
      go_wp2_with fail
      go_cut [4] (fun ov wx => wx.ownsRow w1.heap.size 5 1 ov (numB n ++ numB s.kept.length).length (bcells (numB n ++ numB s.kept.length)) ∧ Below w1.heap.size w1 wx)
      case first =>
        go_region_held3 (fun W => W.cell? ⟨w.heap.size, 0, none⟩ = some (.slice ka s.kept.length kc) ∧ W.cell? ⟨w.heap.size, 2, none⟩ = some (.int .i64 (n : Int))) (first | exact ⟨q20, q22⟩ | exact ⟨q30, q32⟩ | exact ⟨q40, q42⟩ | go_keep)
          (first
            | (go_at_call_of 38 (Value.int .i64 (n : Int)); refine (put_at n (by omega) w1 _ (by assumption)).mono ?_; rintro e w2 ⟨g2, c2, rfl, o2, r2, b2⟩; obtain ⟨q20, q22⟩ := dUnhide HC w2 b2)
            | (go_at_call_of 38 (Value.int .i64 (s.kept.length : Int)); refine (put_at s.kept.length (by omega) w1 _ (by assumption)).mono ?_; rintro e w3 ⟨g3, c3, rfl, o3, r3, b3⟩; obtain ⟨q30, q32⟩ := dUnhide HC w3 b3; have o2' := own_kept o2 r3)
            | (refine step_app8 rfl _ _ rfl w1.heap.size _ (numB n) rfl o2' _ _ _ (numB s.kept.length) rfl o3 (by omega) b3.size ?_; intro v4 w4 o4 r4; have b4 := b3.grown r4 b3.size (fun k hk => (o2'.lt k hk).1); obtain ⟨q40, q42⟩ := dUnhide HC w4 b4))
        all_goals
          go_wp2_with fail
          go_meet
          case rel => exact ⟨o4, b4⟩
      case rest =>
        obtain ⟨hrow, bc⟩ := hcut
        generalize hPre : numB n ++ numB s.kept.length = pre at *
        have PS := dHide (dUnhide PS)
        have hpl : pre.length ≤ 18 := by rw [← hPre, List.length_append]; omega
        obtain ⟨u4, c4, rfl⟩ := own_some hrow (by rw [← hPre, List.length_append]; have := numB_pos n; omega)
        have h0' := dHide hrow
        clear hPre HC hbr k0 k1 k2
        have kc0 := ((dUnhide HX0).below bc) 0 _ rfl
        go_wp2
        go_loopw [5, 4] (fun x o wr => ∃ k : Nat, x = .int .i64 (k : Int) ∧ k ≤ s.kept.length ∧ wr.ownsRow w1.heap.size 5 1 o (pre ++ (s.kept.take k).flatMap packE).length (bcells (pre ++ (s.kept.take k).flatMap packE)) ∧ Below w1.heap.size w1 wr) (fun x _ _ => s.kept.length - (intOf x).toNat)
        case atStart => exact ⟨0, rfl, Nat.zero_le _, by simpa using dUnhide h0', bc⟩
        case round =>
          obtain ⟨k, rfl, hk, ho, hb⟩ := hrel
          have kr := ((dUnhide HX0).below hb) 0 _ rfl
          have hfl := dUnhide FL k hk
          by_cases hlt : (k : Int) < (s.kept.length : Int)
          · have hkl : k < s.kept.length := by omega
            obtain ⟨b, off, rfl, hc⟩ := (dUnhide HK1 wr hb).ent hkl
            obtain ⟨c0, c1, c2, c3⟩ := hc k hkl
            have hS := dHide (flat_take s.kept k hkl)
            have hE := dUnhide KE s.kept[k] (List.getElem_mem hkl)
            have hpe := packE_len hE
            generalize s.kept[k] = y at *
            generalize (s.kept.take k).flatMap packE = FK at *
            obtain ⟨yx, yw, yh, yd⟩ := y
            obtain ⟨⟨p0, p1, p2, p3, p4⟩, v0, v1, -, hd, -⟩ := hE
            simp only at *
            obtain ⟨n1, rfl⟩ := Int.eq_ofNat_of_zero_le (show 0 ≤ yx by omega)
            obtain ⟨n2, rfl⟩ := Int.eq_ofNat_of_zero_le v0
            have CP := dHide fun W => l3Pack_any n1 n2 yh yd (by omega) (by omega) (by omega) W
            have ePE : Hid (packE ⟨(n1 : Int), (n2 : Int), yh, yd⟩ = packB n1 n2 yh yd.data.toList) := rfl
            rw [dUnhide ePE] at hS hpe
            have hpp : 0 < (packB n1 n2 yh yd.data.toList).length := by unfold packB; simp only [List.length_append]; have := numB_pos n1; omega
            generalize packB n1 n2 yh yd.data.toList = PB at *
            have hlt' := ho.lt
            clear hc p0 p1 p2 p3 p4 v0 v1 hd ePE
            go_wp2_with fail
            refine (dUnhide CP _).mono ?_
            rintro r w2 ⟨⟨u2, rfl, o2⟩, b2⟩
            have ho2 := own_kept ho (Below.row b2 none)
            have o2' := own_mono o2 hb.size
            obtain ⟨g2, c2', rfl⟩ := own_some o2' hpp
            have hb2 := belowThen hb b2
            clear CP b2 o2 ho c0 c1 c2 c3 kr hb
            go_wp2_with (at_builtin; refine app8 _ rfl _ _ rfl w1.heap.size _ (pre ++ FK) rfl ho2 ⟨g2, 0, none⟩ _ _ PB rfl rfl (o2'.cells rfl) ?c3 hb2.size ?_)
            case c3 => simp only [List.length_append]; omega
            intro v3 w3 o3 r3
            have hb3 := hb2.grown r3 hb2.size (fun j hj => (ho2.lt j hj).1)
            have hrel : Hid (w3.ownsRow w1.heap.size 5 1 v3 (pre ++ (s.kept.take (k + 1)).flatMap packE).length (bcells (pre ++ (s.kept.take (k + 1)).flatMap packE))) := by
              rw [Hid, dUnhide hS]
              exact own_len8 o3
            clear o3 r3 ho2 o2' hb2 hlt'
            go_wp2
            go_roundw
            case rel => exact ⟨k + 1, by go_num, by omega, dUnhide hrel, hb3⟩
            case measure => simp [intOf]; omega
          · have e1 : s.kept.take k = s.kept := List.take_of_length_le (by omega)
            rw [e1] at ho
            have Q2 := dHide (own_mono ho B1.size)
            have Q := dHide (ownB_of_row (dUnhide Q2))
            clear e1 ho hfl FL
            go_wp2
            go_ret2
            refine ⟨⟨_, rfl, ?_⟩, belowThen B1 hb⟩
            rw [dUnhide PS]
            exact ⟨dUnhide Q, fun _ => dUnhide Q2⟩
    · have eM := dUnhide PN fun h => hl ((dUnhide PD).1 h).2
      have hl0 : (0 : Int) < (s.late.length : Int) := by have := List.length_pos_iff.2 hl; omega
      clear hl hs PY PN PD HX HK
      subst eM
      go_wp2
      go_ret2
      exact ⟨⟨_, rfl, by simp, _, _, rfl, by simp, .inl rfl⟩, B1.alloc B1.size _⟩
  · obtain rfl := hr1.of_no hs
    have eM := dUnhide PN fun h => hs ((dUnhide PD).1 h).1
    clear hr1 hs PY PN PD HX HK
    subst eM
    go_wp2
    go_ret2
    exact ⟨⟨_, rfl, by simp, _, _, rfl, by simp, .inl rfl⟩, B1.alloc B1.size _⟩
theorem specStorePack_any (v : Value) (s : St) (w : World) (hv : Rs w v s) (hf : fitS s) :
    Calls Try.prog 10 #[v] w fun r w' => (∃ u, r = .returned (.tuple #[u, .bool (packM s).2]) ∧ OwnB w' w.heap.size u (packM s).1) ∧ Below w.heap.size w w' :=
  (specStorePack_row v s w hv hf).mono fun _ _ ⟨⟨u, h1, h2, _⟩, h3⟩ => ⟨⟨u, h1, h2⟩, h3⟩
end Go.Proofs.Ytognmmmplmideaa
