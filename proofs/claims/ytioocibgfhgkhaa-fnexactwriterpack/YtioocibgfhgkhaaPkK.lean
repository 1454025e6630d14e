/- Records as bytes: spec's WriterPack. -/
import Derived.Test.YtioocibgfhgkhaaPkB
import Derived.Test.YtioocibgfhgkhaaPkH
import Derived.Test.YtioocibgfhgkhaaWrC
import Derived.Deep.RegionHeld3
import Derived.Deep.DeepCutAuto
namespace Go.Proofs.Ytioocibgfhgkhaa
open Go.ChangeShapes Go.WideShapes Go.ChangeAt Go.RowKit
set_option linter.unusedVariables false
set_option linter.unusedSimpArgs false
set_option maxRecDepth 100000

/-- The bytes of a word, and of a writer. -/
def wdB (e : Wd) : List UInt8 := textB e.data.data.toList ++ lstB e.acks
def wtB (m : Wt) : List UInt8 := numB m.epoch.toNat ++ numB m.words.length ++ m.words.flatMap wdB
open Classical in
/-- WriterPack. -/
noncomputable def wtM (ds : List Int) (cop : Int) (m : Wt) : List UInt8 × Bool := if wrP ds cop m then (wtB m, true) else ([], false)
theorem wtM_yes {ds : List Int} {cop : Int} {m : Wt} (h : wrP ds cop m) : wtM ds cop m = (wtB m, true) := if_pos h
theorem wtM_no {ds : List Int} {cop : Int} {m : Wt} (h : ¬ wrP ds cop m) : wtM ds cop m = ([], false) := if_neg h
theorem wdsB_len (es : List Wd) : (es.flatMap wdB).length ≤ sumX es + 9 * sumW es + 27 * es.length := by
  induction es with
  | nil => simp
  | cons e es ih =>
    have h1 := lstB_len e.acks
    have h2 := numB_len e.data.data.toList.length
    have h3 : e.data.data.toList.length = e.data.size := by rw [← Lib.size_eq]
    have h4 : sumW (e :: es) = e.acks.length + sumW es := by simp [sumW]
    have h6 : sumX (e :: es) = e.data.size + sumX es := by simp [sumX]
    have h5 : (wdB e).length ≤ e.data.size + 9 * e.acks.length + 18 := by unfold wdB textB; simp only [List.length_append]; omega
    rw [List.flatMap_cons, List.length_append, List.length_cons, h4, h6]
    omega
theorem wdsB_take (es : List Wd) (k : Nat) (h : k < es.length) : (es.take (k + 1)).flatMap wdB = (es.take k).flatMap wdB ++ wdB es[k] := by
  rw [List.take_succ_eq_append_getElem h, List.flatMap_append, List.flatMap_cons, List.flatMap_nil, List.append_nil]
theorem natI_nodes {ds : List Int} {cop : Int} {xs : List Int} (h : nodesP ds cop xs) : natI xs := fun x hx => by
  obtain ⟨i, hi, rfl⟩ := List.getElem_of_mem hx
  have h1 := h.2 i hi
  have h2 := h.1.1
  omega
theorem Rw.word' {w : World} {b off n cap : Nat} {rs : List (Nst Wd)} (h : Rw 3 wdCl w (.slice (some ⟨b, off, none⟩) n cap) rs) {k : Nat} (hk : k < rs.length) : WdAt w b (off + k * 3) rs[k] := by
  obtain ⟨b', off', e, hc⟩ := h.word hk
  cases e
  exact hc k hk
set_option maxHeartbeats 4000000 in
theorem specWriterPack_any (cv v : Value) (c : List Int × Int) (m : Wt) (w : World) (hcv : RdConfig cv c w) (hv : RdWriter v m w) (hsz : sizWriter m ≤ 1048576) :
    Calls Try.prog 23 #[cv, v] w fun e w' => (∃ u, e = .returned (.tuple #[u, .bool (wtM c.1 c.2 m).2]) ∧ OwnB w' w.heap.size u (wtM c.1 c.2 m).1) ∧ Below w.heap.size w w' := by
  have ba : ∀ (w : World) o, Below w.heap.size w (w.alloc o) := fun w o => (Below.refl _ _).alloc (Nat.le_refl _) o
  have CR := dHide fun W (hb : Below w.heap.size w W) => specWriterOk_any cv v c m W (hcv.below hb) (hv.below hb) (by omega)
  obtain ⟨ds, cop⟩ := c
  obtain ⟨sc, rfl, hcn⟩ := hcv
  obtain ⟨-, ca, cc, rfl, -, -⟩ := hcn
  obtain ⟨sv, rfl, rs, hm, hr, hn⟩ := hv
  simp only at *
  have HR := dHide fun W (hb : Below w.heap.size w W) => hr.below hb
  have HN := dHide fun W (hb : Below w.heap.size w W) k (hk : k < rs.length) => (hn _ (List.getElem_mem hk)).below hb
  obtain ⟨-, a, cap, rfl, -, -⟩ := hr
  have PY : Hid (wrP ds cop m → wtM ds cop m = (numB m.epoch.toNat ++ numB m.words.length ++ m.words.flatMap wdB, true)) := wtM_yes
  have PN : Hid (¬ wrP ds cop m → wtM ds cop m = ([], false)) := wtM_no
  have PF : Hid (wrP ds cop m → 0 ≤ m.epoch ∧ m.epoch ≤ 30 ∧ ∀ e ∈ m.words, natI e.acks ∧ e.data.size ≤ 40) := fun h => ⟨by have := h.2.1; omega, h.2.1.2, fun e he => by
    obtain ⟨i, hi, rfl⟩ := List.getElem_of_mem he
    obtain ⟨q1, q2, -⟩ := h.2.2.2.1 i hi
    exact ⟨natI_nodes q2, q1⟩⟩
  have HS : Hid (m.words.length + sumX m.words + sumW m.words ≤ 1048576) := hsz
  generalize wtM ds cop m = M at *
  generalize wrP ds cop m = P at *
  obtain ⟨tr, es⟩ := m
  simp only at *
  subst hm
  have X0 := dHide ((Bx.new w [.slice ca ds.length cc, .int .i64 cop] 29).below (ba _ (.cells #[.int .i64 tr, .slice a rs.length cap] 55)))
  have Y0 := Bx.new (w.alloc (.cells #[.slice ca ds.length cc, .int .i64 cop] 29)) [.int .i64 tr, .slice a rs.length cap] 55
  have e1 : (w.alloc (.cells #[.slice ca ds.length cc, .int .i64 cop] 29)).heap.size = w.heap.size + 1 := by simp
  rw [e1] at Y0
  have Y0 := dHide Y0
  have B0 := belowThen (ba w (.cells #[.slice ca ds.length cc, .int .i64 cop] 29)) (ba _ (.cells #[.int .i64 tr, .slice a rs.length cap] 55))
  clear hn e1
  go_enter Try.func23, Try.ntmps23
  go_wp2_with fail
  generalize (w.alloc (.cells #[.slice ca ds.length cc, .int .i64 cop] 29)).alloc (.cells #[.int .i64 tr, .slice a rs.length cap] 55) = w0 at *
  refine (dUnhide CR _ B0).mono ?_
  rintro r w1 ⟨hr, b1⟩
  have B1 := belowThen B0 b1
  have X1 := (dUnhide Y0).below b1
  have k0 := X1 0 _ rfl
  have k1 := X1 1 _ rfl
  have HX := dHide X1
  clear CR X0 Y0 X1 B0 b1
  by_cases hp : P
  · obtain rfl := hr.of_yes hp
    have eM := dUnhide PY hp
    obtain ⟨tr0, tr1, hev⟩ := dUnhide PF hp
    obtain ⟨mb, mo⟩ := M
    obtain ⟨EB, rfl⟩ := Prod.mk.injEq .. ▸ eM
    obtain ⟨n0, rfl⟩ := Int.eq_ofNat_of_zero_le tr0
    rw [Int.toNat_natCast, List.length_map] at EB
    replace EB := dHide EB
    have HE := dHide hev
    have hrl : rs.length ≤ 1048576 := by have := dUnhide HS; rw [List.length_map] at this; omega
    have l0 := numB_len n0
    have l2 := numB_len rs.length
    have hbr : Below w1.heap.size w1 w1.drew := (Below.refl _ _).drew
    have HC : Hid (∀ W, Below w1.heap.size w1 W → W.cell? ⟨w.heap.size + 1, 0, none⟩ = some (.int .i64 (n0 : Int)) ∧ W.cell? ⟨w.heap.size + 1, 1, none⟩ = some (.slice a rs.length cap)) := fun W hb => ⟨((dUnhide HX).below hb) 0 _ rfl, ((dUnhide HX).below hb) 1 _ rfl⟩
    clear hr PY PN PF hev HX eM
    go_wp2_with fail
    go_cut [6] (fun ov wx => wx.ownsRow w1.heap.size 5 1 ov (numB n0 ++ numB rs.length).length (bcells (numB n0 ++ numB rs.length)) ∧ Below w1.heap.size w1 wx)
    case first =>
      clear HR HN HE EB B1 HS
      go_region_held3 (fun W => W.cell? ⟨w.heap.size + 1, 0, none⟩ = some (.int .i64 (n0 : Int)) ∧ W.cell? ⟨w.heap.size + 1, 1, none⟩ = some (.slice a rs.length cap)) (first | exact ⟨q20, q21⟩ | exact ⟨q30, q31⟩ | exact ⟨q40, q41⟩ | go_keep)
        (first
          | (go_at_call_of 37 (Value.int .i64 (n0 : Int)); refine (put_at n0 (by omega) w1 _ (by assumption)).mono ?_; rintro e w2 ⟨g2, c2, rfl, o2, r2, b2⟩; obtain ⟨q20, q21⟩ := dUnhide HC w2 b2)
          | (go_at_call_of 37 (Value.int .i64 (rs.length : Int)); refine (put_at rs.length (by omega) w1 _ (by assumption)).mono ?_; rintro e w3 ⟨g3, c3, rfl, o3, r3, b3⟩; obtain ⟨q30, q31⟩ := dUnhide HC w3 b3; have o2 := own_kept o2 r3)
          | (refine step_app8 rfl _ _ rfl w1.heap.size _ (numB n0) rfl o2 _ _ _ (numB rs.length) rfl o3 (by omega) b3.size ?_; intro v4 w4 o4 r4; have b4 := b3.grown r4 b3.size (fun k hk => (o2.lt k hk).1); obtain ⟨q40, q41⟩ := dUnhide HC w4 b4)
          | fail)
      all_goals
        go_wp2_with fail
        go_meet
        case rel => exact ⟨own_len8 o4, b4⟩
    case rest =>
      obtain ⟨ho, hb⟩ := hcut
      have lp : (numB n0 ++ numB rs.length).length ≤ 18 := by simp only [List.length_append]; omega
      generalize numB n0 ++ numB rs.length = pre at *
      have HO := dHide ho
      have HB := dHide hb
      clear k0 k1 ho hb
      go_wp2
      go_loopw [6, 7] (fun ov x wr => ∃ k : Nat, x = .int .i64 (k : Int) ∧ k ≤ rs.length ∧ wr.ownsRow w1.heap.size 5 1 ov (pre ++ ((rs.map Nst.m).take k).flatMap wdB).length (bcells (pre ++ ((rs.map Nst.m).take k).flatMap wdB)) ∧ Below w1.heap.size w1 wr) (fun _ x _ => rs.length - (intOf x).toNat)
      case atStart => exact ⟨0, rfl, Nat.zero_le _, by simpa using dUnhide HO, dUnhide HB⟩
      case round =>
        clear HO HB
        obtain ⟨k, rfl, hk, ho, hb⟩ := hrel
        obtain ⟨-, x0⟩ := dUnhide HC wr hb
        by_cases hlt : (k : Int) < (rs.length : Int)
        · have hkl : k < rs.length := by omega
          obtain ⟨b, off, rfl, hc⟩ := (dUnhide HR wr (belowThen B1 hb)).word hkl
          have hkm : k < (rs.map Nst.m).length := by simpa using hkl
          have hS := wdsB_take (rs.map Nst.m) k hkm
          rw [List.getElem_map] at hS
          have hS := dHide hS
          have hy := dUnhide HE rs[k].m (List.mem_map.2 ⟨_, List.getElem_mem hkl, rfl⟩)
          have hfl := wdsB_len ((rs.map Nst.m).take k)
          have hsl := sumW_le (rs.map Nst.m) k
          have hsx := sumX_le (rs.map Nst.m) k
          have hns := sumW_mem (ms := rs.map Nst.m) (k := k) hkm
          rw [List.getElem_map] at hns
          have hss := dUnhide HS
          rw [List.length_map] at hss
          rw [List.length_take, List.length_map] at hfl
          have HNk := dHide fun W (hB : Below w1.heap.size w1 W) => dUnhide HN W (belowThen B1 hB) k hkl
          have HWk := dHide fun W (hB : Below w1.heap.size w1 W) => ((dUnhide HR W (belowThen B1 hB)).word' hkl)
          generalize rs[k] = y at *
          generalize ((rs.map Nst.m).take k).flatMap wdB = FK at *
          obtain ⟨na, nc, ⟨d, ns, cl⟩⟩ := y
          obtain ⟨g0, g1⟩ := hy
          simp only [Sv] at g0 g1 hns HNk HWk
          have HX := dHide fun W (hB : Below w1.heap.size w1 W) => (⟨(dUnhide HC W hB).2, (dUnhide HWk W hB).1, (dUnhide HWk W hB).2.1⟩ : W.cell? ⟨w.heap.size + 1, 1, none⟩ = some (.slice (some ⟨b, off, none⟩) rs.length cap) ∧ W.cell? ⟨b, off + k * 3, none⟩ = some (.string d) ∧ W.cell? ⟨b, off + k * 3 + 1, none⟩ = some (.slice na ns.length nc))
          obtain ⟨z0, z1, z2⟩ := dUnhide HX wr hb
          have o1 : wr.drew.ownsRow w1.heap.size 5 1 u6 (pre ++ FK).length (bcells (pre ++ FK)) := ho
          have bEd : Below w1.heap.size w1 wr.drew := hb.drew
          have l3 := lstB_len ns
          have hnl : ns.length ≤ 1048576 := by omega
          have hds : d.data.toList.length = d.size := by rw [← Lib.size_eq]
          have l4 : (textB d.data.toList).length ≤ 49 := by
            have := numB_len d.data.toList.length
            rw [textB, List.length_append]
            omega
          have HL := dHide fun W (hB : Below w1.heap.size w1 W) => list_at (.slice na ns.length nc) ns w1 W (dUnhide HNk W hB) g0 (by omega) hB
          have hpl : (pre ++ FK).length ≤ 18 + 40 * 1048576 := by rw [List.length_append]; omega
          have hS' : Hid (((rs.map Nst.m).take (k + 1)).flatMap wdB = FK ++ (textB d.data.toList ++ lstB ns)) := by
            have := dUnhide hS
            rw [Hid, this]
            rfl
          clear hc hS HE HR HN HNk HWk HS hfl hsl hsx hss hkm x0
          go_wp2_with fail
          have hS2 : Hid (pre ++ ((rs.map Nst.m).take (k + 1)).flatMap wdB = pre ++ FK ++ textB d.data.toList ++ lstB ns) := by
            rw [Hid, dUnhide hS']
            simp only [List.append_assoc]
          clear EB hS' B1 HC hbr ho hb
          generalize pre ++ FK = PF at *
          go_region_held3 (fun W => W.cell? ⟨w.heap.size + 1, 1, none⟩ = some (.slice (some ⟨b, off, none⟩) rs.length cap) ∧ W.cell? ⟨b, off + k * 3, none⟩ = some (.string d) ∧ W.cell? ⟨b, off + k * 3 + 1, none⟩ = some (.slice na ns.length nc)) (first | exact ⟨q20, q21, q22⟩ | exact ⟨q30, q31, q32⟩ | exact ⟨q40, q41, q42⟩ | exact ⟨q50, q51, q52⟩ | go_keep)
            (first
              | (go_at_call 53; refine (putT_at d (by omega) w1 _ (by assumption)).mono ?_; rintro e w2 ⟨g2, c2, rfl, o2, r2, b2⟩; obtain ⟨q20, q21, q22⟩ := dUnhide HX w2 b2; have o1 := own_kept o1 r2)
              | (refine step_app8 rfl _ _ rfl w1.heap.size _ PF rfl o1 _ _ _ (textB d.data.toList) rfl o2 (by omega) b2.size ?_; intro v3 w3 o3 r3; have b3 := b2.grown r3 b2.size (fun k hk => (o1.lt k hk).1); obtain ⟨q30, q31, q32⟩ := dUnhide HX w3 b3)
              | (go_at_call 36; refine (dUnhide HL _ (by assumption)).mono ?_; rintro e w4 ⟨g4, c4, rfl, o4, r4, b4⟩; obtain ⟨q40, q41, q42⟩ := dUnhide HX w4 b4; have o3 := own_kept o3 r4)
              | (refine step_app8 rfl _ _ rfl w1.heap.size _ (PF ++ textB d.data.toList) rfl o3 _ _ _ (lstB ns) rfl o4 (by simp only [List.length_append]; omega) b4.size ?_; intro v5 w5 o5 r5; have b5 := b4.grown r5 b4.size (fun k hk => (o3.lt k hk).1); obtain ⟨q50, q51, q52⟩ := dUnhide HX w5 b5)
              | fail)
          all_goals
            have hrel : Hid (w5.ownsRow w1.heap.size 5 1 v5 (pre ++ ((rs.map Nst.m).take (k + 1)).flatMap wdB).length (bcells (pre ++ ((rs.map Nst.m).take (k + 1)).flatMap wdB))) := by
              rw [Hid, dUnhide hS2]
              exact own_len8 o5
            clear o5 r5
            go_wp2
            go_roundw
            case rel => exact ⟨k + 1, by go_num, by omega, dUnhide hrel, b5⟩
            case measure => simp [intOf]; omega
        · have e1 : (rs.map Nst.m).take k = rs.map Nst.m := List.take_of_length_le (by rw [List.length_map]; omega)
          rw [e1] at ho
          have Q := dHide ((dUnhide EB) ▸ ownB_of_row (own_mono ho B1.size))
          have BF := belowThen B1 hb
          clear e1 ho HR HN HE HC HS
          go_wp2
          go_ret2
          exact ⟨⟨_, rfl, dUnhide Q⟩, BF⟩
  · obtain rfl := hr.of_no hp
    have eM := dUnhide PN hp
    subst eM
    clear hr hp HR HN HX PY PN PF HS
    go_wp2
    go_ret2
    exact ⟨⟨_, rfl, by simp, _, _, rfl, by simp, .inl rfl⟩, B1.alloc B1.size _⟩
end Go.Proofs.Ytioocibgfhgkhaa
