/- Several texts in one: PkK, PiE, DwA. -/
import Derived.Test.YthndkkjgjhgdnaaGreatDoorGk60
import Derived.Test.YthndkkjgjhgdnaaGreatDoorGk80
import Derived.Test.YthndkkjgjhgdnaaGreatDoorWrC
import Derived.Deep.RegionHeld3
import Derived.Deep.DeepCutAuto
import Derived.Test.YthndkkjgjhgdnaaGreatDoorGk57
import Derived.Test.YthndkkjgjhgdnaaGreatDoorWrR
import Derived.Test.YthndkkjgjhgdnaaGreatDoorGk49
import Derived.Test.YthndkkjgjhgdnaaGreatDoorGk63
namespace Go.Proofs.YthndkkjgjhgdnaaGreatDoor
open Go.ChangeShapes Go.WideShapes Go.ChangeAt Go.RowKit
set_option linter.unusedVariables false
set_option linter.unusedSimpArgs false
set_option maxRecDepth 100000

/-- The bytes of a word, and of a writer. -/
def wdB (e : Wd) : List UInt8 := textB e.data.data.toList ++ lstB e.acks
def wtB (m : Wt) : List UInt8 := numB m.epoch.toNat ++ numB m.words.length ++ m.words.flatMap wdB
open Classical in
/-- WriterPack. -/
noncomputable def wtM (ds : List Int) (cop : Int) (m : Wt) : List UInt8 × Bool := if wrP ds cop m then (wtB m, true) else ([], false)
theorem wtM_yes {ds : List Int} {cop : Int} {m : Wt} (h : wrP ds cop m) : wtM ds cop m = (wtB m, true) := if_pos h
theorem wtM_no {ds : List Int} {cop : Int} {m : Wt} (h : ¬ wrP ds cop m) : wtM ds cop m = ([], false) := if_neg h
theorem wdsB_len (es : List Wd) : (es.flatMap wdB).length ≤ sumX es + 9 * sumW es + 27 * es.length := by
  induction es with
  | nil => simp
  | cons e es ih =>
    have h1 := lstB_len e.acks
    have h2 := numB_len e.data.data.toList.length
    have h3 : e.data.data.toList.length = e.data.size := by rw [← Lib.size_eq]
    have h4 : sumW (e :: es) = e.acks.length + sumW es := by simp [sumW]
    have h6 : sumX (e :: es) = e.data.size + sumX es := by simp [sumX]
    have h5 : (wdB e).length ≤ e.data.size + 9 * e.acks.length + 18 := by unfold wdB textB; simp only [List.length_append]; omega
    rw [List.flatMap_cons, List.length_append, List.length_cons, h4, h6]
    omega
theorem wdsB_take (es : List Wd) (k : Nat) (h : k < es.length) : (es.take (k + 1)).flatMap wdB = (es.take k).flatMap wdB ++ wdB es[k] := by
  rw [List.take_succ_eq_append_getElem h, List.flatMap_append, List.flatMap_cons, List.flatMap_nil, List.append_nil]
theorem natI_nodes {ds : List Int} {cop : Int} {xs : List Int} (h : nodesP ds cop xs) : natI xs := fun x hx => by
  obtain ⟨i, hi, rfl⟩ := List.getElem_of_mem hx
  have h1 := h.2 i hi
  have h2 := h.1.1
  omega
theorem Rw.word' {w : World} {b off n cap : Nat} {rs : List (Nst Wd)} (h : Rw 3 wdCl w (.slice (some ⟨b, off, none⟩) n cap) rs) {k : Nat} (hk : k < rs.length) : WdAt w b (off + k * 3) rs[k] := by
  obtain ⟨b', off', e, hc⟩ := h.word hk
  cases e
  exact hc k hk
set_option maxHeartbeats 4000000 in
theorem specWriterPack_any (cv v : Value) (c : List Int × Int) (m : Wt) (w : World) (hcv : RdConfig cv c w) (hv : RdWriter v m w) (hsz : sizWriter m ≤ 1048576) :
    Calls Tryz.prog 14 #[cv, v] w fun e w' => (∃ u, e = .returned (.tuple #[u, .bool (wtM c.1 c.2 m).2]) ∧ OwnB w' w.heap.size u (wtM c.1 c.2 m).1) ∧ Below w.heap.size w w' := by
  have ba : ∀ (w : World) o, Below w.heap.size w (w.alloc o) := fun w o => (Below.refl _ _).alloc (Nat.le_refl _) o
  have CR := dHide fun W (hb : Below w.heap.size w W) => specWriterOk_any cv v c m W (hcv.below hb) (hv.below hb) (by omega)
  obtain ⟨ds, cop⟩ := c
  obtain ⟨sc, rfl, hcn⟩ := hcv
  obtain ⟨-, ca, cc, rfl, -, -⟩ := hcn
  obtain ⟨sv, rfl, rs, hm, hr, hn⟩ := hv
  simp only at *
  have HR := dHide fun W (hb : Below w.heap.size w W) => hr.below hb
  have HN := dHide fun W (hb : Below w.heap.size w W) k (hk : k < rs.length) => (hn _ (List.getElem_mem hk)).below hb
  obtain ⟨-, a, cap, rfl, -, -⟩ := hr
  have PY : Hid (wrP ds cop m → wtM ds cop m = (numB m.epoch.toNat ++ numB m.words.length ++ m.words.flatMap wdB, true)) := wtM_yes
  have PN : Hid (¬ wrP ds cop m → wtM ds cop m = ([], false)) := wtM_no
  have PF : Hid (wrP ds cop m → 0 ≤ m.epoch ∧ m.epoch ≤ 30 ∧ ∀ e ∈ m.words, natI e.acks ∧ e.data.size ≤ 40) := fun h => ⟨by have := h.2.1; omega, h.2.1.2, fun e he => by
    obtain ⟨i, hi, rfl⟩ := List.getElem_of_mem he
    obtain ⟨q1, q2, -⟩ := h.2.2.2.1 i hi
    exact ⟨natI_nodes q2, q1⟩⟩
  have HS : Hid (m.words.length + sumX m.words + sumW m.words ≤ 1048576) := hsz
  generalize wtM ds cop m = M at *
  generalize wrP ds cop m = P at *
  obtain ⟨tr, es⟩ := m
  simp only at *
  subst hm
  have X0 := dHide ((Bx.new w [.slice ca ds.length cc, .int .i64 cop] 26).below (ba _ (.cells #[.int .i64 tr, .slice a rs.length cap] 40)))
  have Y0 := Bx.new (w.alloc (.cells #[.slice ca ds.length cc, .int .i64 cop] 26)) [.int .i64 tr, .slice a rs.length cap] 40
  have e1 : (w.alloc (.cells #[.slice ca ds.length cc, .int .i64 cop] 26)).heap.size = w.heap.size + 1 := by simp
  rw [e1] at Y0
  have Y0 := dHide Y0
  have B0 := belowThen (ba w (.cells #[.slice ca ds.length cc, .int .i64 cop] 26)) (ba _ (.cells #[.int .i64 tr, .slice a rs.length cap] 40))
  clear hn e1
  go_enter Tryz.func14, Tryz.ntmps14
  go_wp2_with fail
  generalize (w.alloc (.cells #[.slice ca ds.length cc, .int .i64 cop] 26)).alloc (.cells #[.int .i64 tr, .slice a rs.length cap] 40) = w0 at *
  refine (dUnhide CR _ B0).mono ?_
  rintro r w1 ⟨hr, b1⟩
  have B1 := belowThen B0 b1
  have X1 := (dUnhide Y0).below b1
  have k0 := X1 0 _ rfl
  have k1 := X1 1 _ rfl
  have HX := dHide X1
  clear CR X0 Y0 X1 B0 b1
  by_cases hp : P
  · obtain rfl := hr.of_yes hp
    have eM := dUnhide PY hp
    obtain ⟨tr0, tr1, hev⟩ := dUnhide PF hp
    obtain ⟨mb, mo⟩ := M
    obtain ⟨EB, rfl⟩ := Prod.mk.injEq .. ▸ eM
    obtain ⟨n0, rfl⟩ := Int.eq_ofNat_of_zero_le tr0
    rw [Int.toNat_natCast, List.length_map] at EB
    replace EB := dHide EB
    have HE := dHide hev
    have hrl : rs.length ≤ 1048576 := by have := dUnhide HS; rw [List.length_map] at this; omega
    have l0 := numB_len n0
    have l2 := numB_len rs.length
    have hbr : Below w1.heap.size w1 w1.drew := (Below.refl _ _).drew
    have HC : Hid (∀ W, Below w1.heap.size w1 W → W.cell? ⟨w.heap.size + 1, 0, none⟩ = some (.int .i64 (n0 : Int)) ∧ W.cell? ⟨w.heap.size + 1, 1, none⟩ = some (.slice a rs.length cap)) := fun W hb => ⟨((dUnhide HX).below hb) 0 _ rfl, ((dUnhide HX).below hb) 1 _ rfl⟩
    clear hr PY PN PF hev HX eM
    go_wp2_with fail
    go_cut [6] (fun ov wx => wx.ownsRow w1.heap.size 5 1 ov (numB n0 ++ numB rs.length).length (bcells (numB n0 ++ numB rs.length)) ∧ Below w1.heap.size w1 wx)
    case first =>
      clear HR HN HE EB B1 HS
      go_region_held3 (fun W => W.cell? ⟨w.heap.size + 1, 0, none⟩ = some (.int .i64 (n0 : Int)) ∧ W.cell? ⟨w.heap.size + 1, 1, none⟩ = some (.slice a rs.length cap)) (first | exact ⟨q20, q21⟩ | exact ⟨q30, q31⟩ | exact ⟨q40, q41⟩ | go_keep)
        (first
          | (go_at_call_of 23 (Value.int .i64 (n0 : Int)); refine (put_at n0 (by omega) w1 _ (by assumption)).mono ?_; rintro e w2 ⟨g2, c2, rfl, o2, r2, b2⟩; obtain ⟨q20, q21⟩ := dUnhide HC w2 b2)
          | (go_at_call_of 23 (Value.int .i64 (rs.length : Int)); refine (put_at rs.length (by omega) w1 _ (by assumption)).mono ?_; rintro e w3 ⟨g3, c3, rfl, o3, r3, b3⟩; obtain ⟨q30, q31⟩ := dUnhide HC w3 b3; have o2 := own_kept o2 r3)
          | (refine step_app8 rfl _ _ rfl w1.heap.size _ (numB n0) rfl o2 _ _ _ (numB rs.length) rfl o3 (by omega) b3.size ?_; intro v4 w4 o4 r4; have b4 := b3.grown r4 b3.size (fun k hk => (o2.lt k hk).1); obtain ⟨q40, q41⟩ := dUnhide HC w4 b4)
          | fail)
      all_goals
        go_wp2_with fail
        go_meet
        case rel => exact ⟨own_len8 o4, b4⟩
    case rest =>
      obtain ⟨ho, hb⟩ := hcut
      have lp : (numB n0 ++ numB rs.length).length ≤ 18 := by simp only [List.length_append]; omega
      generalize numB n0 ++ numB rs.length = pre at *
      have HO := dHide ho
      have HB := dHide hb
      clear k0 k1 ho hb
      go_wp2
      go_loopw [6, 7] (fun ov x wr => ∃ k : Nat, x = .int .i64 (k : Int) ∧ k ≤ rs.length ∧ wr.ownsRow w1.heap.size 5 1 ov (pre ++ ((rs.map Nst.m).take k).flatMap wdB).length (bcells (pre ++ ((rs.map Nst.m).take k).flatMap wdB)) ∧ Below w1.heap.size w1 wr) (fun _ x _ => rs.length - (intOf x).toNat)
      case atStart => exact ⟨0, rfl, Nat.zero_le _, by simpa using dUnhide HO, dUnhide HB⟩
      case round =>
        clear HO HB
        obtain ⟨k, rfl, hk, ho, hb⟩ := hrel
        obtain ⟨-, x0⟩ := dUnhide HC wr hb
        by_cases hlt : (k : Int) < (rs.length : Int)
        · have hkl : k < rs.length := by omega
          obtain ⟨b, off, rfl, hc⟩ := (dUnhide HR wr (belowThen B1 hb)).word hkl
          have hkm : k < (rs.map Nst.m).length := by simpa using hkl
          have hS := wdsB_take (rs.map Nst.m) k hkm
          rw [List.getElem_map] at hS
          have hS := dHide hS
          have hy := dUnhide HE rs[k].m (List.mem_map.2 ⟨_, List.getElem_mem hkl, rfl⟩)
          have hfl := wdsB_len ((rs.map Nst.m).take k)
          have hsl := sumW_le (rs.map Nst.m) k
          have hsx := sumX_le (rs.map Nst.m) k
          have hns := sumW_mem (ms := rs.map Nst.m) (k := k) hkm
          rw [List.getElem_map] at hns
          have hss := dUnhide HS
          rw [List.length_map] at hss
          rw [List.length_take, List.length_map] at hfl
          have HNk := dHide fun W (hB : Below w1.heap.size w1 W) => dUnhide HN W (belowThen B1 hB) k hkl
          have HWk := dHide fun W (hB : Below w1.heap.size w1 W) => ((dUnhide HR W (belowThen B1 hB)).word' hkl)
          generalize rs[k] = y at *
          generalize ((rs.map Nst.m).take k).flatMap wdB = FK at *
          obtain ⟨na, nc, ⟨d, ns, cl⟩⟩ := y
          obtain ⟨g0, g1⟩ := hy
          simp only [Sv] at g0 g1 hns HNk HWk
          have HX := dHide fun W (hB : Below w1.heap.size w1 W) => (⟨(dUnhide HC W hB).2, (dUnhide HWk W hB).1, (dUnhide HWk W hB).2.1⟩ : W.cell? ⟨w.heap.size + 1, 1, none⟩ = some (.slice (some ⟨b, off, none⟩) rs.length cap) ∧ W.cell? ⟨b, off + k * 3, none⟩ = some (.string d) ∧ W.cell? ⟨b, off + k * 3 + 1, none⟩ = some (.slice na ns.length nc))
          obtain ⟨z0, z1, z2⟩ := dUnhide HX wr hb
          have o1 : wr.drew.ownsRow w1.heap.size 5 1 u6 (pre ++ FK).length (bcells (pre ++ FK)) := ho
          have bEd : Below w1.heap.size w1 wr.drew := hb.drew
          have l3 := lstB_len ns
          have hnl : ns.length ≤ 1048576 := by omega
          have hds : d.data.toList.length = d.size := by rw [← Lib.size_eq]
          have l4 : (textB d.data.toList).length ≤ 49 := by
            have := numB_len d.data.toList.length
            rw [textB, List.length_append]
            omega
          have HL := dHide fun W (hB : Below w1.heap.size w1 W) => list_at (.slice na ns.length nc) ns w1 W (dUnhide HNk W hB) g0 (by omega) hB
          have hpl : (pre ++ FK).length ≤ 18 + 40 * 1048576 := by rw [List.length_append]; omega
          have hS' : Hid (((rs.map Nst.m).take (k + 1)).flatMap wdB = FK ++ (textB d.data.toList ++ lstB ns)) := by
            have := dUnhide hS
            rw [Hid, this]
            rfl
          clear hc hS HE HR HN HNk HWk HS hfl hsl hsx hss hkm x0
          go_wp2_with fail
          have hS2 : Hid (pre ++ ((rs.map Nst.m).take (k + 1)).flatMap wdB = pre ++ FK ++ textB d.data.toList ++ lstB ns) := by
            rw [Hid, dUnhide hS']
            simp only [List.append_assoc]
          clear EB hS' B1 HC hbr ho hb
          generalize pre ++ FK = PF at *
          go_region_held3 (fun W => W.cell? ⟨w.heap.size + 1, 1, none⟩ = some (.slice (some ⟨b, off, none⟩) rs.length cap) ∧ W.cell? ⟨b, off + k * 3, none⟩ = some (.string d) ∧ W.cell? ⟨b, off + k * 3 + 1, none⟩ = some (.slice na ns.length nc)) (first | exact ⟨q20, q21, q22⟩ | exact ⟨q30, q31, q32⟩ | exact ⟨q40, q41, q42⟩ | exact ⟨q50, q51, q52⟩ | go_keep)
            (first
              | (go_at_call 38; refine (putT_at d (by omega) w1 _ (by assumption)).mono ?_; rintro e w2 ⟨g2, c2, rfl, o2, r2, b2⟩; obtain ⟨q20, q21, q22⟩ := dUnhide HX w2 b2; have o1 := own_kept o1 r2)
              | (refine step_app8 rfl _ _ rfl w1.heap.size _ PF rfl o1 _ _ _ (textB d.data.toList) rfl o2 (by omega) b2.size ?_; intro v3 w3 o3 r3; have b3 := b2.grown r3 b2.size (fun k hk => (o1.lt k hk).1); obtain ⟨q30, q31, q32⟩ := dUnhide HX w3 b3)
              | (go_at_call 24; refine (dUnhide HL _ (by assumption)).mono ?_; rintro e w4 ⟨g4, c4, rfl, o4, r4, b4⟩; obtain ⟨q40, q41, q42⟩ := dUnhide HX w4 b4; have o3 := own_kept o3 r4)
              | (refine step_app8 rfl _ _ rfl w1.heap.size _ (PF ++ textB d.data.toList) rfl o3 _ _ _ (lstB ns) rfl o4 (by simp only [List.length_append]; omega) b4.size ?_; intro v5 w5 o5 r5; have b5 := b4.grown r5 b4.size (fun k hk => (o3.lt k hk).1); obtain ⟨q50, q51, q52⟩ := dUnhide HX w5 b5)
              | fail)
          all_goals
            have hrel : Hid (w5.ownsRow w1.heap.size 5 1 v5 (pre ++ ((rs.map Nst.m).take (k + 1)).flatMap wdB).length (bcells (pre ++ ((rs.map Nst.m).take (k + 1)).flatMap wdB))) := by
              rw [Hid, dUnhide hS2]
              exact own_len8 o5
            clear o5 r5
            go_wp2
            go_roundw
            case rel => exact ⟨k + 1, by go_num, by omega, dUnhide hrel, b5⟩
            case measure => simp [intOf]; omega
        · have e1 : (rs.map Nst.m).take k = rs.map Nst.m := List.take_of_length_le (by rw [List.length_map]; omega)
          rw [e1] at ho
          have Q := dHide ((dUnhide EB) ▸ ownB_of_row (own_mono ho B1.size))
          have BF := belowThen B1 hb
          clear e1 ho HR HN HE HC HS
          go_wp2
          go_ret2
          exact ⟨⟨_, rfl, dUnhide Q⟩, BF⟩
  · obtain rfl := hr.of_no hp
    have eM := dUnhide PN hp
    subst eM
    clear hr hp HR HN HX PY PN PF HS
    go_wp2
    go_ret2
    exact ⟨⟨_, rfl, by simp, _, _, rfl, by simp, .inl rfl⟩, B1.alloc B1.size _⟩
end Go.Proofs.YthndkkjgjhgdnaaGreatDoor
namespace Go.Proofs.YthndkkjgjhgdnaaGreatDoor
open Go.ChangeShapes Go.WideShapes Go.ChangeAt Go.RowKit
set_option linter.unusedVariables false
set_option linter.unusedSimpArgs false
set_option maxRecDepth 100000

set_option maxHeartbeats 4000000 in
theorem addWord_x (B : Nat) (w0 : World) (b : Value) (bs : List UInt8) (d : ByteArray) (na : Option Addr) (nc : Nat) (ns : List Int) (dn : Bool) (h0 : natI ns) (hnl : ns.length ≤ 1048576) (hd : d.size ≤ 1048576) (HV : ∀ W, Below B w0 W → Ns W (.slice na ns.length nc) ns) (hbs : bs.length ≤ 1000000000) (w : World) (hb0 : Below B w0 w) (hown0 : OwnX w B b bs) (hB : B ≤ w.heap.size) :
    Calls Tryz.prog 107 #[b, .agg #[.string d, .slice na ns.length nc, .bool dn]] w fun e w' => ∃ v, e = .returned v ∧ OwnX w' B v (bs ++ (textB d.data.toList ++ lstB ns)) ∧ Onto w w' b v := by
  have l0 := textB_len d
  have HV := dHide HV
  have X0 := Bx.new w [.string d, .slice na ns.length nc, .bool dn] 82
  have O0 := hown0.alloc (.cells #[.string d, .slice na ns.length nc, .bool dn] 82)
  have T0 := (Onto.refl w b).alloc (.cells #[.string d, .slice na ns.length nc, .bool dn] 82)
  have HZ := dHide fun (W : World) (v : Value) (h : Onto w W b v) => h.at hown0 hb0 hB
  have Z0 := dUnhide HZ _ _ T0
  have ES : Hid (bs ++ (textB d.data.toList ++ lstB ns) = ((bs ++ textB d.data.toList) ++ lstB ns)) := by simp only [Hid, List.append_assoc]
  have NB : b.ownBlock ≠ some w.heap.size := fun e => by have := (hown0.lt _ e).2; omega
  have NB := dHide NB
  clear hown0 hb0
  go_enter Tryz.func107, Tryz.ntmps107
  have k0 := X0 0 _ rfl
  go_wp2_with fail
  generalize w.alloc (.cells #[.string d, .slice na ns.length nc, .bool dn] 82) = wb at *
  have U0 := Onto.refl wb b
  have C := addText_x B b bs d (by omega) (by first | omega | (simp only [List.length_append]; omega)) wb O0 Z0.2
  refine C.mono ?_
  rintro e w1 ⟨v1, rfl, O1, t1⟩
  have U1 := U0.trans t1
  have Z1 := dUnhide HZ _ _ (T0.trans U1)
  clear C Z0 O0 t1 U0 k0
  have k1 := (X0.grown U1.1 (dUnhide NB)) 1 _ rfl
  have C := addListI_x B w0 v1 (bs ++ textB d.data.toList) (.slice na ns.length nc) ns h0 (by omega) (by first | omega | (simp only [List.length_append]; omega)) (dUnhide HV) w1 Z1.1 O1 Z1.2
  go_wp2_with fail
  refine C.mono ?_
  rintro e w2 ⟨v2, rfl, O2, t2⟩
  have U2 := U1.trans t2
  have Z2 := dUnhide HZ _ _ (T0.trans U2)
  clear C Z1 O1 t2 U1 k1
  have F := dHide (And.intro O2 (T0.trans U2))
  clear O2 U2 T0 X0 HZ NB Z2
  go_wp2
  go_ret
  refine ⟨_, rfl, ?_⟩
  rw [dUnhide ES]
  exact dUnhide F
set_option maxHeartbeats 4000000 in
theorem addListWord_x (B : Nat) (w0 : World) (b : Value) (bs : List UInt8) (a : Option Addr) (cap : Nat) (rs : List (Nst Wd)) (hl : rs.length ≤ 1048576) (hfl : ∀ k, (((rs.map Nst.m).take k).flatMap wdB).length ≤ 100000000) (hbs : bs.length ≤ 800000000) (HR : ∀ W, Below B w0 W → Rw 3 wdCl W (.slice a rs.length cap) rs)
    (HE : ∀ k (hk : k < rs.length) u xs W, Below B w0 W → OwnX W B u xs → xs.length ≤ 1000000000 → B ≤ W.heap.size → Calls Tryz.prog 107 #[u, .agg #[.string rs[k].m.data, .slice rs[k].a rs[k].m.acks.length rs[k].c, .bool rs[k].m.done]] W fun e w' => ∃ v, e = .returned v ∧ OwnX w' B v (xs ++ wdB (Nst.m rs[k])) ∧ Onto W w' u v)
    (w : World) (hb0 : Below B w0 w) (hown0 : OwnX w B b bs) (hB : B ≤ w.heap.size) :
    Calls Tryz.prog 106 #[b, .slice a rs.length cap, .func (.func 107) #[] #[]] w fun e w' => ∃ v, e = .returned v ∧ OwnX w' B v (bs ++ (numB rs.length ++ (rs.map Nst.m).flatMap wdB)) ∧ Onto w w' b v := by
  have HR := dHide HR
  have HE := dHide HE
  have HF := dHide hfl
  have C := dHide (addNum_x B b bs rs.length (by omega) w hown0 (by omega) hB)
  have n9 := numB_len rs.length
  have ES : Hid (bs ++ (numB rs.length ++ (rs.map Nst.m).flatMap wdB) = (bs ++ numB rs.length) ++ (rs.map Nst.m).flatMap wdB) := by simp only [Hid, List.append_assoc]
  have hhd : (bs ++ numB rs.length).length ≤ 800000009 := by rw [List.length_append]; omega
  generalize bs ++ numB rs.length = hd at *
  clear hfl
  go_enter Tryz.func106, Tryz.ntmps106
  go_wp2_with fail
  refine (dUnhide C).mono ?_
  rintro e w1 ⟨v1, rfl, O1, T1⟩
  have B1 := T1.at hown0 hb0 hB
  clear C n9 hown0 hb0
  go_wp2
  go_loopw [0, 15] (fun o xv wr => ∃ k : Nat, xv = .int .i64 (k : Int) ∧ k ≤ rs.length ∧ OwnX wr B o (hd ++ ((rs.map Nst.m).take k).flatMap wdB) ∧ Onto w wr b o ∧ Below B w0 wr ∧ B ≤ wr.heap.size) (fun _ xv _ => rs.length - (intOf xv).toNat)
  case atStart => exact ⟨0, rfl, Nat.zero_le _, by simpa using O1, T1, B1.1, B1.2⟩
  case round =>
    clear O1 T1 B1
    obtain ⟨k, rfl, hk, ho, ht, hb, hbz⟩ := hrel
    by_cases hlt : (k : Int) < (rs.length : Int)
    · have hkl : k < rs.length := by omega
      obtain ⟨bk, off, rfl, hc⟩ := (dUnhide HR wr hb).word hkl
      obtain ⟨c0, c1, c2⟩ := hc k hkl
      have hS : ((rs.map Nst.m).take (k + 1)).flatMap wdB = ((rs.map Nst.m).take k).flatMap wdB ++ wdB (Nst.m rs[k]) := by
        have hkm : k < (rs.map Nst.m).length := by simpa using hkl
        rw [List.take_succ_eq_append_getElem hkm, List.flatMap_append, List.flatMap_cons, List.flatMap_nil, List.append_nil, List.getElem_map]
      have hfk := dUnhide HF k
      have AE := dHide (dUnhide HE k hkl)
      generalize rs[k] = y at *
      generalize ((rs.map Nst.m).take k).flatMap wdB = FK at *
      obtain ⟨ya, yc, ⟨da, ns, dn⟩⟩ := y
      simp only [Sv] at *
      have bA : Below wr.heap.size wr (wr.alloc (.cells #[.string da, .slice ya ns.length yc, .bool dn] 82)) := (Below.refl _ _).alloc (Nat.le_refl _) _
      have FIN : Hid (∀ v5 w5, OwnX w5 B v5 ((hd ++ FK) ++ wdB ⟨da, ns, dn⟩) → Onto (wr.alloc (.cells #[.string da, .slice ya ns.length yc, .bool dn] 82)) w5 u0 v5 → OwnX w5 B v5 (hd ++ ((rs.map Nst.m).take (k + 1)).flatMap wdB) ∧ Onto w w5 b v5 ∧ Below B w0 w5 ∧ B ≤ w5.heap.size) := fun v5 w5 h1 h2 => by
        have q1 := ht.trans (((Onto.refl wr u0).alloc (.cells #[.string da, .slice ya ns.length yc, .bool dn] 82)).trans h2)
        have q2 := ((Onto.refl wr u0).alloc (.cells #[.string da, .slice ya ns.length yc, .bool dn] 82)).trans h2
        exact ⟨by rw [hS, ← List.append_assoc]; exact h1, q1, q2.at ho hb hbz⟩
      have AE := dHide (dUnhide AE u0 (hd ++ FK) (wr.alloc (.cells #[.string da, .slice ya ns.length yc, .bool dn] 82)) (hb.trans (bA.mono hbz)) (ho.alloc _) (by rw [List.length_append]; omega) (Nat.le_trans hbz bA.size))
      clear hc ho ht hS hb bA hfk
      go_wp2_with fail
      refine (dUnhide AE).mono ?_
      rintro e w5 ⟨v5, rfl, O5, T5⟩
      have F := dHide (dUnhide FIN v5 w5 O5 T5)
      clear O5 T5 FIN AE c0 c1 c2
      go_wp2
      go_roundw
      case rel => exact ⟨k + 1, by go_num, by omega, (dUnhide F).1, (dUnhide F).2.1, (dUnhide F).2.2.1, (dUnhide F).2.2.2⟩
      case measure => simp [intOf]; omega
    · have e1 : (rs.map Nst.m).take k = rs.map Nst.m := List.take_of_length_le (by rw [List.length_map]; omega)
      rw [e1] at ho
      have Q := dHide (And.intro ho ht)
      clear e1 ho ht hb
      go_wp2
      go_ret
      refine ⟨_, rfl, ?_⟩
      rw [dUnhide ES]
      exact dUnhide Q
set_option maxHeartbeats 4000000 in
theorem addWriter_x (B : Nat) (w0 : World) (b : Value) (bs : List UInt8) (n0 : Nat) (h0 : n0 ≤ 9223372036854775807) (a : Option Addr) (cap : Nat) (rs : List (Nst Wd)) (hl : rs.length ≤ 1048576) (hfl : ∀ k, (((rs.map Nst.m).take k).flatMap wdB).length ≤ 100000000) (HR : ∀ W, Below B w0 W → Rw 3 wdCl W (.slice a rs.length cap) rs) (HE : ∀ k (hk : k < rs.length) u xs W, Below B w0 W → OwnX W B u xs → xs.length ≤ 1000000000 → B ≤ W.heap.size → Calls Tryz.prog 107 #[u, .agg #[.string rs[k].m.data, .slice rs[k].a rs[k].m.acks.length rs[k].c, .bool rs[k].m.done]] W fun e w' => ∃ v, e = .returned v ∧ OwnX w' B v (xs ++ wdB (Nst.m rs[k])) ∧ Onto W w' u v) (hbs : bs.length ≤ 700000000) (w : World) (hb0 : Below B w0 w) (hown0 : OwnX w B b bs) (hB : B ≤ w.heap.size) :
    Calls Tryz.prog 69 #[b, .agg #[.int .i64 (n0 : Int), .slice a rs.length cap]] w fun e w' => ∃ v, e = .returned v ∧ OwnX w' B v (bs ++ (numB n0 ++ (numB rs.length ++ (rs.map Nst.m).flatMap wdB))) ∧ Onto w w' b v := by
  have HF := dHide hfl
  have HR := dHide HR
  have HE := dHide HE
  clear hfl
  have l0 := numB_len n0
  have X0 := Bx.new w [.int .i64 (n0 : Int), .slice a rs.length cap] 40
  have O0 := hown0.alloc (.cells #[.int .i64 (n0 : Int), .slice a rs.length cap] 40)
  have T0 := (Onto.refl w b).alloc (.cells #[.int .i64 (n0 : Int), .slice a rs.length cap] 40)
  have HZ := dHide fun (W : World) (v : Value) (h : Onto w W b v) => h.at hown0 hb0 hB
  have Z0 := dUnhide HZ _ _ T0
  have ES : Hid (bs ++ (numB n0 ++ (numB rs.length ++ (rs.map Nst.m).flatMap wdB)) = ((bs ++ numB n0) ++ (numB rs.length ++ (rs.map Nst.m).flatMap wdB))) := by simp only [Hid, List.append_assoc]
  have NB : b.ownBlock ≠ some w.heap.size := fun e => by have := (hown0.lt _ e).2; omega
  have NB := dHide NB
  clear hown0 hb0
  go_enter Tryz.func69, Tryz.ntmps69
  have k0 := X0 0 _ rfl
  go_wp2_with fail
  generalize w.alloc (.cells #[.int .i64 (n0 : Int), .slice a rs.length cap] 40) = wb at *
  have U0 := Onto.refl wb b
  have C := addNum_x B b bs n0 (by omega) wb O0 (by first | omega | (simp only [List.length_append]; omega)) Z0.2
  refine C.mono ?_
  rintro e w1 ⟨v1, rfl, O1, t1⟩
  have U1 := U0.trans t1
  have Z1 := dUnhide HZ _ _ (T0.trans U1)
  clear C Z0 O0 t1 U0 k0
  have k1 := (X0.grown U1.1 (dUnhide NB)) 1 _ rfl
  have C := addListWord_x B w0 v1 (bs ++ numB n0) a cap rs hl (dUnhide HF) (by first | omega | (simp only [List.length_append]; omega)) (dUnhide HR) (dUnhide HE) w1 Z1.1 O1 Z1.2
  go_wp2_with fail
  refine C.mono ?_
  rintro e w2 ⟨v2, rfl, O2, t2⟩
  have U2 := U1.trans t2
  have Z2 := dUnhide HZ _ _ (T0.trans U2)
  clear C Z1 O1 t2 U1 k1
  have F := dHide (And.intro O2 (T0.trans U2))
  clear O2 U2 T0 X0 HZ NB Z2
  go_wp2
  go_ret
  refine ⟨_, rfl, ?_⟩
  rw [dUnhide ES]
  exact dUnhide F
end Go.Proofs.YthndkkjgjhgdnaaGreatDoor
namespace Go.Proofs.YthndkkjgjhgdnaaGreatDoor
open Go.ChangeShapes Go.WideShapes Go.ChangeAt Go.RowKit
set_option linter.unusedVariables false
set_option linter.unusedSimpArgs false
set_option maxRecDepth 100000

/-- A word that was drawn. -/
def fitW1 (n : Nat) (e : Wd) : Prop := e.data.size ≤ 41 ∧ e.acks.length ≤ n ∧ allInt e.acks
/-- A writer that was drawn. -/
def fitW (n : Nat) (m : Wt) : Prop := m.words.length ≤ n ∧ (∀ e ∈ m.words, fitW1 n e) ∧ -9223372036854775808 ≤ m.epoch ∧ m.epoch ≤ 9223372036854775807
theorem fitW.ok {n : Nat} {m : Wt} (h : fitW n m) : okWriter m := ⟨fun e he => by
  obtain ⟨h1, h2, h3⟩ := h.2.1 e he
  exact ⟨h3, by omega⟩, h.2.2⟩
theorem sumW_fit {n : Nat} {ms : List Wd} (h : ∀ e ∈ ms, fitW1 n e) : sumW ms ≤ n * ms.length ∧ sumX ms ≤ 41 * ms.length := by
  induction ms with
  | nil => simp [sumW, sumX]
  | cons e ms ih =>
    have h1 := h e (List.mem_cons_self ..)
    have h2 := ih fun y hy => h y (List.mem_cons_of_mem _ hy)
    have e1 : sumW (e :: ms) = e.acks.length + sumW ms := by simp [sumW]
    have e2 : sumX (e :: ms) = e.data.size + sumX ms := by simp [sumX]
    rw [e1, e2, List.length_cons, Nat.mul_add]
    have := h1.1
    have := h1.2.1
    omega
theorem fitW.siz {n : Nat} {m : Wt} (h : fitW n m) (hn : n ≤ 100) : sizWriter m ≤ 1048576 := by
  have h1 := sumW_fit h.2.1
  have h2 := h.1
  have h3 : n * m.words.length ≤ 100 * 100 := Nat.mul_le_mul hn (by omega)
  unfold sizWriter sizWordS
  omega
theorem fitW.more {n n' : Nat} {m : Wt} (h : fitW n m) (hn : n ≤ n') : fitW n' m := ⟨Nat.le_trans h.1 hn, fun e he => ⟨(h.2.1 e he).1, Nat.le_trans (h.2.1 e he).2.1 hn, (h.2.1 e he).2.2⟩, h.2.2⟩
theorem fitW_zero (n : Nat) : fitW n zeroWt := ⟨Nat.zero_le _, (fun e he => by cases he), by decide, by decide⟩
theorem fitW.added {n : Nat} {m : Wt} {ds : List Int} {cop : Int} {d : ByteArray} (h : fitW n m) (hd : d.size ≤ 41) : fitW (n + 1) (addM ds cop m d).1 := by
  by_cases hp : wrP ds cop m
  · by_cases ho : wrP ds cop (addW m d)
    · rw [addM_yes hp ho]
      have h' := h.more (Nat.le_succ n)
      refine ⟨by simp only [addW, List.length_append, List.length_singleton]; have := h.1; omega, fun e he => ?_, h.2.2⟩
      simp only [addW] at he
      rcases List.mem_append.1 he with he | he
      · exact h'.2.1 e he
      · obtain rfl : e = ⟨d, [], false⟩ := by simpa using he
        exact ⟨hd, Nat.zero_le _, fun z hz => by cases hz⟩
    · rw [addM_no hp ho]; exact h.more (by omega)
  · rw [addM_bad hp]; exact fitW_zero _
theorem fitW.acked {n : Nat} {m : Wt} {ds : List Int} {cop off x : Int} (h : fitW n m) (hx : okInt x) : fitW (n + 1) (ackM ds cop m off x).1 := by
  by_cases hp : wrP ds cop m
  · by_cases ho : ackP ds m.words off x
    · rw [ackM_yes hp ho]
      have h' := h.more (Nat.le_succ n)
      refine ⟨by simp only [ackL, List.length_set]; exact h'.1, fun e he => ?_, h.2.2⟩
      simp only [ackL] at he
      rcases List.mem_or_eq_of_mem_set he with he | he
      · exact h'.2.1 e he
      · rw [he]
        have hk : off.toNat - 1 < m.words.length := by have := ho.1; omega
        have q := h.2.1 _ (List.getElem_mem hk)
        unfold ackW atW
        rw [getD_lt _ hk]
        refine ⟨q.1, ?_, fun z hz => ?_⟩
        · have := putL_len x m.words[off.toNat - 1].acks
          have := q.2.1
          simp only
          omega
        · rcases mem_putL.1 hz with rfl | hz
          · exact hx
          · exact q.2.2 z hz
    · rw [ackM_no hp ho]; exact h.more (by omega)
  · rw [ackM_bad hp]; exact fitW_zero _
theorem ApR.same {α : Type} {T : TypeId} {sz : Nat} {cl : α → List Value} {w w' : World} {base : Nat} {v : Value} {ms : List α} (h : ApR T sz cl w base v ms) (heq : ∀ b, touch v = some b → w'.heap[b]? = w.heap[b]?) : ApR T sz cl w' base v ms := by
  rcases h with h | h
  · exact .inl h
  · rcases h.2 with ⟨rfl, h0⟩ | ⟨g, cap, cur, rfl, hb, hg, hnc, hcm, hcs, htk⟩
    · exact .inr ⟨h.1, .inl ⟨rfl, h0⟩⟩
    · by_cases hc : cap = 0
      · have e0 : ms = [] := List.length_eq_zero_iff.1 (by omega)
        subst e0
        subst hc
        exact .inl ⟨rfl, _, rfl⟩
      · exact .inr ⟨h.1, .inr ⟨g, cap, cur, rfl, hb, (heq g (by simp [touch, hc])).trans hg, hnc, hcm, hcs, htk⟩⟩
theorem OwnN.same {w w' : World} {base : Nat} {v : Value} {xs : List Int} (h : OwnN w base v xs) (heq : xs = [] ∨ w'.heap[blockOf v]? = w.heap[blockOf v]?) : OwnN w' base v xs := by
  obtain ⟨h0, a, cap, rfl, hcap, h⟩ := h
  refine ⟨h0, a, cap, rfl, hcap, ?_⟩
  rcases heq with hn | hn
  · exact .inl hn
  · rcases h with h | ⟨b, off, rfl, hb, hc⟩
    · exact .inl h
    · exact .inr ⟨b, off, rfl, hb, fun i hi => ⟨(World.cell?_of_block (a := ⟨b, off + i, none⟩) hn).trans (hc i hi).1, (World.frozen?_of_block (a := ⟨b, off + i, none⟩) hn).trans (hc i hi).2⟩⟩
/-- Words that may be appended to, in the blocks lo .. hi - 1. -/
def WIn (lo hi : Nat) (v : Value) (ms : List Wd) (W : World) : Prop := ∃ rs : List (Nst Wd), rs.map Nst.m = ms ∧ WPs W lo v rs ∧ (∀ b, touch v = some b → b < hi) ∧ ∀ p ∈ rs, p.m.acks = [] ∨ blockOf (Sv Wd.acks p) < hi
theorem WAp.in_ {W : World} {lo : Nat} {v : Value} {ms : List Wd} (h : WAp W lo v ms) : WIn lo W.heap.size v ms W := by
  have ht := fun b (hb : touch v = some b) => (h.touched hb).2
  obtain ⟨rs, h1, h2⟩ := h
  exact ⟨rs, h1, h2, ht, fun p hp => (h2.2.1 p hp).bs.lt⟩
theorem WIn.ap {W : World} {lo hi : Nat} {v : Value} {ms : List Wd} (h : WIn lo hi v ms W) : WAp W lo v ms := by
  obtain ⟨rs, h1, h2, -⟩ := h
  exact ⟨rs, h1, h2⟩
theorem WIn.same {W W' : World} {lo hi : Nat} {v : Value} {ms : List Wd} (h : WIn lo hi v ms W) (heq : ∀ k, lo ≤ k → k < hi → W'.heap[k]? = W.heap[k]?) : WIn lo hi v ms W' := by
  have ht := fun b (hb : touch v = some b) => (h.ap.touched hb).1
  obtain ⟨rs, h1, ⟨h2, h3, h4⟩, h5, h6⟩ := h
  refine ⟨rs, h1, ⟨h2.same fun b hb => heq b (ht b hb) (h5 b hb), fun p hp => (h3 p hp).same ?_, h4⟩, h5, h6⟩
  rcases h6 p hp with h | h
  · exact .inl h
  · rcases (h3 p hp).ge with h' | h'
    · exact .inl h'
    · exact .inr (heq _ h' h)
theorem WIn.wide {W : World} {lo hi lo' hi' : Nat} {v : Value} {ms : List Wd} (h : WIn lo hi v ms W) (h1 : lo' ≤ lo) (h2 : hi ≤ hi') : WIn lo' hi' v ms W := by
  obtain ⟨rs, e1, e2, e3, e4⟩ := h
  exact ⟨rs, e1, e2.mono h1, fun b hb => Nat.lt_of_lt_of_le (e3 b hb) h2, fun p hp => (e4 p hp).imp id fun h => Nat.lt_of_lt_of_le h h2⟩
theorem WIn.rd {W : World} {lo hi : Nat} {v : Value} {ms : List Wd} (h : WIn lo hi v ms W) : RdWordS v ms W := OwK.rd h.ap.ow
theorem WIn.shape {W : World} {lo hi : Nat} {v : Value} {ms : List Wd} (h : WIn lo hi v ms W) : ∃ a c, v = .slice a ms.length c := h.ap.slice
/-- A writer that a box at b holds, its words in the blocks lo .. hi - 1, apart from the box. -/
structure DV (W : World) (b lo hi : Nat) (m : Wt) (a : Option Addr) (c : Nat) : Prop where
  box : BxZ W 0 b [.int .i64 m.epoch, .slice a m.words.length c]
  own : WIn lo hi (.slice a m.words.length c) m.words W
  fit : hi ≤ W.heap.size
  apart : b < lo ∨ hi ≤ b
variable {W W' : World} {b lo hi bk : Nat} {m : Wt} {a : Option Addr} {c : Nat}
theorem DV.below (h : DV W b lo hi m a c) (hb : Below W.heap.size W W') : DV W' b lo hi m a c :=
  ⟨h.box.below hb, h.own.same fun k h1 h2 => hb.block k (by have := h.fit; omega), by have := h.fit; have := hb.size; omega, h.apart⟩
theorem DV.drawn (h : DV W b lo hi m a c) (hd : Drawn bk W W') (h1 : bk < lo) (h2 : b ≠ bk) : DV W' b lo hi m a c :=
  ⟨h.box.drawn hd h2, h.own.same fun k h3 h4 => hd.block k (by have := h.fit; omega) (by omega), by have := h.fit; have := hd.size; omega, h.apart⟩
theorem DV.set (h : DV W b lo hi m a c) {b' o : Nat} (h1 : b ≠ b') (h2 : b' < lo ∨ hi ≤ b') (u : Value) : DV (W.setCell ⟨b', o, none⟩ u) b lo hi m a c :=
  ⟨h.box.far h1 u, h.own.same fun k h3 h4 => Below.heap_setCell _ _ _ k (by simp only; omega), by rw [World.size_setCell]; exact h.fit, h.apart⟩
theorem DV.rd (h : DV W b lo hi m a c) : RdWriter (.agg #[.int .i64 m.epoch, .slice a m.words.length c]) m W := ⟨_, rfl, h.own.rd⟩
theorem DV.lt (h : DV W b lo hi m a c) : b < W.heap.size := dCell_lt (h.box.2 0 _ rfl).1
theorem DV.weak {hi' : Nat} (h : DV W b lo hi m a c) (h1 : hi ≤ hi') (h2 : hi' ≤ W.heap.size) (hb : b < lo) : DV W b lo hi' m a c := ⟨h.box, h.own.wide (Nat.le_refl _) h1, h2, .inl hb⟩
/-- A box that is made for it behind it. -/
theorem DV.made (h : WIn lo hi (.slice a m.words.length c) m.words W) (hf : hi ≤ W.heap.size) : DV (W.alloc (.cells #[.int .i64 m.epoch, .slice a m.words.length c] 40)) W.heap.size lo hi m a c :=
  have hb : Below W.heap.size W (W.alloc (.cells #[.int .i64 m.epoch, .slice a m.words.length c] 40)) := (Below.refl _ _).alloc (Nat.le_refl _) _
  ⟨(BxZ.new (B := 0) W [.int .i64 m.epoch, .slice a m.words.length c] 40 (Nat.zero_le _)), h.same fun k h1 h2 => hb.block k (by omega), by have := hb.size; omega, .inr hf⟩
/-- A box that takes it. -/
theorem DV.put {x y : Value} {B : Nat} (h : WIn lo hi (.slice a m.words.length c) m.words W) (hf : hi ≤ W.heap.size) (X : BxZ W B b [x, y]) (hb : b < lo ∨ hi ≤ b) :
    DV ((W.setCell ⟨b, 0, none⟩ (.int .i64 m.epoch)).setCell ⟨b, 1, none⟩ (.slice a m.words.length c)) b lo hi m a c := by
  refine ⟨⟨Nat.zero_le _, ((X.put 0 (.int .i64 m.epoch)).put 1 (.slice a m.words.length c)).2⟩, h.same fun k h1 h2 => ?_, by rw [World.size_setCell, World.size_setCell]; exact hf, hb⟩
  rw [Below.heap_setCell _ _ _ k (by simp only; omega), Below.heap_setCell _ _ _ k (by simp only; omega)]
theorem Ns.setFar8 {v : Value} {xs : List Int} (h : Ns W v xs) {b' o : Nat} (hb : xs = [] ∨ blockOf v ≠ b') (u : Value) : Ns (W.setCell ⟨b', o, none⟩ u) v xs := by
  obtain ⟨h0, a, cap, rfl, hcap, h⟩ := h
  refine ⟨h0, a, cap, rfl, hcap, ?_⟩
  rcases hb with h' | hb
  · exact .inl h'
  · rcases h with h | ⟨b, off, rfl, hc⟩
    · exact .inl h
    · exact .inr ⟨b, off, rfl, fun i hi => set_other (hc i hi) (.inl hb)⟩
/-- What a loop of draws holds: the cursor, the configuration's box, the answer's box, and the writer's at bt, with its words in new memory below B. -/
structure D8 (w : World) (bk bt : Nat) (ca : Option Addr) (cc : Nat) (ds : List Int) (cop : Int) (W : World) (B n : Nat) (m : Wt) (a : Option Addr) (c : Nat) : Prop where
  cur : Cur W bk
  drawn : Drawn bk w W
  cfg : Bx W w.heap.size [.slice ca ds.length cc, .int .i64 cop]
  ns : Ns W (.slice ca ds.length cc) ds
  res : BxZ W w.heap.size (w.heap.size + 1) [.int .i64 0, .slice none 0 0]
  wri : DV W bt (bt + 1) B m a c
  fit : fitW n m
variable {w : World} {ca : Option Addr} {cc : Nat} {ds : List Int} {cop : Int} {B n bo bt : Nat}
theorem D8.move (h : D8 w bk bt ca cc ds cop W B n m a c) (hk : bk < w.heap.size) (ht : w.heap.size + 2 ≤ bt) (hne : ds = [] ∨ blockOf (.slice ca ds.length cc) ≠ bk) (hc : Cur W' bk) (hd : Drawn bk W W') : D8 w bk bt ca cc ds cop W' B n m a c :=
  ⟨hc, h.drawn.trans hd, h.cfg.drawn hd (by omega), h.ns.drawn hd hne, h.res.drawn hd (by omega), h.wri.drawn hd (by omega) (by omega), h.fit⟩
theorem D8.below (h : D8 w bk bt ca cc ds cop W B n m a c) (hb : Below W.heap.size W W') : D8 w bk bt ca cc ds cop W' B n m a c :=
  ⟨h.cur.below hb, h.drawn.trans (Drawn.of_below hb), h.cfg.below hb, h.ns.below hb, h.res.below hb, h.wri.below hb, h.fit⟩
theorem D8.set (h : D8 w bk bt ca cc ds cop W B n m a c) (hk : bk < w.heap.size) (ht : w.heap.size + 2 ≤ bt) (hw : ds = [] ∨ blockOf (.slice ca ds.length cc) < w.heap.size) (h1 : B ≤ bo) (h2 : bt + 1 ≤ bo) (o : Nat) (u : Value) : D8 w bk bt ca cc ds cop (W.setCell ⟨bo, o, none⟩ u) B n m a c :=
  ⟨h.cur.setNew4 (by omega) _ _, h.drawn.setNew (by omega) _ _, h.cfg.farB (by omega) _, Ns.setFar8 h.ns (by rcases hw with h | h; exact .inl h; exact .inr (by omega)) _, h.res.far (by omega) _, h.wri.set (by omega) (.inr h1) _, h.fit⟩
theorem D8.cells (h : D8 w bk bt ca cc ds cop W B n m a c) : W.cell? ⟨w.heap.size, 0, none⟩ = some (.slice ca ds.length cc) ∧ W.cell? ⟨w.heap.size, 1, none⟩ = some (.int .i64 cop) ∧ W.cell? ⟨bt, 0, none⟩ = some (.int .i64 m.epoch) ∧ W.cell? ⟨bt, 1, none⟩ = some (.slice a m.words.length c) :=
  ⟨h.cfg 0 _ rfl, h.cfg 1 _ rfl, (h.wri.box.2 0 _ rfl).1, (h.wri.box.2 1 _ rfl).1⟩
theorem D8.weak {B' n' : Nat} (h : D8 w bk bt ca cc ds cop W B n m a c) (h1 : B ≤ B') (h2 : B' ≤ W.heap.size) (hn : n ≤ n') : D8 w bk bt ca cc ds cop W B' n' m a c :=
  ⟨h.cur, h.drawn, h.cfg, h.ns, h.res, h.wri.weak h1 h2 (by omega), h.fit.more hn⟩
theorem D8.lt (h : D8 w bk bt ca cc ds cop W B n m a c) : bt < W.heap.size := h.wri.lt
variable {lo' hi' : Nat} {m' : Wt} {a' : Option Addr} {c' : Nat}
theorem D8.take {n' : Nat} (h : D8 w bk bt ca cc ds cop W B n m a c) (hk : bk < w.heap.size) (ht : w.heap.size + 2 ≤ bt) (hw : ds = [] ∨ blockOf (.slice ca ds.length cc) < w.heap.size) (N : DV W bo lo' hi' m' a' c') (hl : bt + 1 ≤ lo') (hf : fitW n' m') :
    D8 w bk bt ca cc ds cop ((W.setCell ⟨bt, 0, none⟩ (.int .i64 m'.epoch)).setCell ⟨bt, 1, none⟩ (.slice a' m'.words.length c')) W.heap.size n' m' a' c' :=
  ⟨(h.cur.setNew4 (by omega) _ _).setNew4 (by omega) _ _, (h.drawn.setNew (by omega) _ _).setNew (by omega) _ _, (h.cfg.farB (by omega) _).farB (by omega) _,
    Ns.setFar8 (Ns.setFar8 h.ns (by rcases hw with h | h; exact .inl h; exact .inr (by omega)) _) (by rcases hw with h | h; exact .inl h; exact .inr (by omega)) _, (h.res.far (by omega) _).far (by omega) _,
    DV.put (N.own.wide hl N.fit) (Nat.le_refl _) h.wri.box (.inl (by omega)), hf⟩
end Go.Proofs.YthndkkjgjhgdnaaGreatDoor
