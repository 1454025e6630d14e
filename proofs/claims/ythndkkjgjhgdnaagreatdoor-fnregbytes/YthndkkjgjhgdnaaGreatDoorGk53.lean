/- Several texts in one: PkJ, PiD. -/
import Derived.Test.YthndkkjgjhgdnaaGreatDoorGk60
import Derived.Test.YthndkkjgjhgdnaaGreatDoorGk80
import Derived.Test.YthndkkjgjhgdnaaGreatDoorGk72
import Derived.Deep.RegionHeld3
import Derived.Deep.DeepCutAuto
import Derived.Test.YthndkkjgjhgdnaaGreatDoorGk57
namespace Go.Proofs.YthndkkjgjhgdnaaGreatDoor
open Go.ChangeShapes Go.WideShapes Go.ChangeAt Go.RowKit
set_option linter.unusedVariables false
set_option linter.unusedSimpArgs false
set_option maxRecDepth 100000

/-- The bytes of an era, and of a register. -/
def erB (e : Er) : List UInt8 := lstB e.nodes ++ numB (bitN e.closed) ++ numB e.last.toNat
def rgB (m : Rg) : List UInt8 := numB m.trim.toNat ++ numB m.eras.length ++ m.eras.flatMap erB
open Classical in
/-- RegPack. -/
noncomputable def rgM (ds : List Int) (cop : Int) (m : Rg) : List UInt8 × Bool := if regP ds cop m then (rgB m, true) else ([], false)
theorem rgM_yes {ds : List Int} {cop : Int} {m : Rg} (h : regP ds cop m) : rgM ds cop m = (rgB m, true) := if_pos h
theorem rgM_no {ds : List Int} {cop : Int} {m : Rg} (h : ¬ regP ds cop m) : rgM ds cop m = ([], false) := if_neg h
theorem ersB_len (es : List Er) : (es.flatMap erB).length ≤ 9 * sumN es + 27 * es.length := by
  induction es with
  | nil => simp
  | cons e es ih =>
    have h1 := lstB_len e.nodes
    have h2 := numB_len (bitN e.closed)
    have h3 := numB_len e.last.toNat
    have h4 : sumN (e :: es) = e.nodes.length + sumN es := by simp [sumN]
    have h5 : (erB e).length ≤ 9 * e.nodes.length + 27 := by unfold erB; simp only [List.length_append]; omega
    rw [List.flatMap_cons, List.length_append, List.length_cons, h4]
    omega
theorem ersB_take (es : List Er) (k : Nat) (h : k < es.length) : (es.take (k + 1)).flatMap erB = (es.take k).flatMap erB ++ erB es[k] := by
  rw [List.take_succ_eq_append_getElem h, List.flatMap_append, List.flatMap_cons, List.flatMap_nil, List.append_nil]
theorem natI_holds {ds : List Int} {cop : Int} {xs : List Int} (h : holdsP ds cop xs) : natI xs := fun x hx => by
  obtain ⟨i, hi, rfl⟩ := List.getElem_of_mem hx
  have h1 := h.1.2 i hi
  have h2 := h.1.1.1
  omega
/-- A row of bytes is not a block whose first cell is no byte. -/
theorem own_apartV {w : World} {B b n : Nat} {v u : Value} {bs : List UInt8} (h : w.ownsRow B 5 1 v n (bcells bs)) (hn : 0 < bs.length) (hc : w.cell? ⟨b, 0, none⟩ = some u) (hu : ∀ z, u ≠ .int .u8 z) : v.ownBlock ≠ some b := by
  have e : n = bs.length := by have := h.1; simp [bcells] at this; omega
  obtain ⟨g, cap, rfl⟩ := own_some h (by omega)
  intro e2
  have e3 : g = b := by simpa [Value.ownBlock] using e2
  subst e3
  have h1 := h.cells rfl 0 (.int .u8 (bs[0].toNat : Int)) (by simp only [bcells, List.getElem?_map, List.getElem?_eq_getElem hn, Option.map_some])
  have h2 : (⟨g, 0, none⟩ : Addr).add 0 = ⟨g, 0, none⟩ := rfl
  rw [h2, hc] at h1
  exact hu _ (Option.some.inj h1)
set_option maxHeartbeats 4000000 in
theorem specRegPack_any (cv v : Value) (c : List Int × Int) (m : Rg) (w : World) (hcv : RdConfig cv c w) (hv : RdRegister v m w) (ht : okInt m.trim) (hsz : sizRegister m ≤ 1048576) :
    Calls Tryz.prog 8 #[cv, v] w fun e w' => (∃ u, e = .returned (.tuple #[u, .bool (rgM c.1 c.2 m).2]) ∧ OwnB w' w.heap.size u (rgM c.1 c.2 m).1) ∧ Below w.heap.size w w' := by
  have ba : ∀ (w : World) o, Below w.heap.size w (w.alloc o) := fun w o => (Below.refl _ _).alloc (Nat.le_refl _) o
  have CR := dHide fun W (hb : Below w.heap.size w W) => specRegOk_any cv v c m W (hcv.below hb) (hv.below hb) ht hsz
  obtain ⟨ds, cop⟩ := c
  obtain ⟨sc, rfl, hcn⟩ := hcv
  obtain ⟨-, ca, cc, rfl, -, -⟩ := hcn
  obtain ⟨sv, rfl, rs, hm, hr, hn⟩ := hv
  simp only at *
  have HR := dHide fun W (hb : Below w.heap.size w W) => hr.below hb
  have HN := dHide fun W (hb : Below w.heap.size w W) k (hk : k < rs.length) => (hn _ (List.getElem_mem hk)).below hb
  obtain ⟨-, a, cap, rfl, -, -⟩ := hr
  have PY : Hid (regP ds cop m → rgM ds cop m = (numB m.trim.toNat ++ numB m.eras.length ++ m.eras.flatMap erB, true)) := rgM_yes
  have PN : Hid (¬ regP ds cop m → rgM ds cop m = ([], false)) := rgM_no
  have PF : Hid (regP ds cop m → 0 ≤ m.trim ∧ ∀ e ∈ m.eras, natI e.nodes ∧ 0 ≤ e.last ∧ e.last ≤ 60) := fun h => ⟨by
    obtain ⟨-, -, h3, -⟩ := h
    rcases h3 with h3 | h3
    · omega
    · have := h3.1.1; omega, fun e he => by
    obtain ⟨i, hi, rfl⟩ := List.getElem_of_mem he
    obtain ⟨q1, q2, -, -⟩ := h.2.2.2 i hi
    exact ⟨natI_holds q1, q2.1, q2.2⟩⟩
  have HS : Hid (m.eras.length + sumN m.eras ≤ 1048576) := hsz
  generalize rgM ds cop m = M at *
  generalize regP ds cop m = P at *
  obtain ⟨es, tr⟩ := m
  simp only at *
  subst hm
  have X0 := dHide ((Bx.new w [.slice ca ds.length cc, .int .i64 cop] 26).below (ba _ (.cells #[.slice a rs.length cap, .int .i64 tr] 29)))
  have Y0 := Bx.new (w.alloc (.cells #[.slice ca ds.length cc, .int .i64 cop] 26)) [.slice a rs.length cap, .int .i64 tr] 29
  have e1 : (w.alloc (.cells #[.slice ca ds.length cc, .int .i64 cop] 26)).heap.size = w.heap.size + 1 := by simp
  rw [e1] at Y0
  have Y0 := dHide Y0
  have B0 := belowThen (ba w (.cells #[.slice ca ds.length cc, .int .i64 cop] 26)) (ba _ (.cells #[.slice a rs.length cap, .int .i64 tr] 29))
  clear hn e1
  obtain ⟨t0, t1⟩ := ht
  go_enter Tryz.func8, Tryz.ntmps8
  go_wp2_with fail
  generalize (w.alloc (.cells #[.slice ca ds.length cc, .int .i64 cop] 26)).alloc (.cells #[.slice a rs.length cap, .int .i64 tr] 29) = w0 at *
  refine (dUnhide CR _ B0).mono ?_
  rintro r w1 ⟨hr, b1⟩
  have B1 := belowThen B0 b1
  have X1 := (dUnhide Y0).below b1
  have k0 := X1 0 _ rfl
  have k1 := X1 1 _ rfl
  have HX := dHide X1
  clear CR X0 Y0 X1 B0 b1
  by_cases hp : P
  · obtain rfl := hr.of_yes hp
    have eM := dUnhide PY hp
    obtain ⟨tr0, hev⟩ := dUnhide PF hp
    obtain ⟨mb, mo⟩ := M
    obtain ⟨EB, rfl⟩ := Prod.mk.injEq .. ▸ eM
    obtain ⟨n0, rfl⟩ := Int.eq_ofNat_of_zero_le tr0
    rw [Int.toNat_natCast, List.length_map] at EB
    replace EB := dHide EB
    have HE := dHide hev
    have hrl : rs.length ≤ 1048576 := by have := dUnhide HS; rw [List.length_map] at this; omega
    have l0 := numB_len n0
    have l2 := numB_len rs.length
    have hbr : Below w1.heap.size w1 w1.drew := (Below.refl _ _).drew
    have HC : Hid (∀ W, Below w1.heap.size w1 W → W.cell? ⟨w.heap.size + 1, 0, none⟩ = some (.slice a rs.length cap) ∧ W.cell? ⟨w.heap.size + 1, 1, none⟩ = some (.int .i64 (n0 : Int))) := fun W hb => ⟨((dUnhide HX).below hb) 0 _ rfl, ((dUnhide HX).below hb) 1 _ rfl⟩
    clear hr PY PN PF hev HX eM
    go_wp2_with fail
    go_cut [6] (fun ov wx => wx.ownsRow w1.heap.size 5 1 ov (numB n0 ++ numB rs.length).length (bcells (numB n0 ++ numB rs.length)) ∧ Below w1.heap.size w1 wx)
    case first =>
      clear HR HN HE EB B1 HS
      go_region_held3 (fun W => W.cell? ⟨w.heap.size + 1, 0, none⟩ = some (.slice a rs.length cap) ∧ W.cell? ⟨w.heap.size + 1, 1, none⟩ = some (.int .i64 (n0 : Int))) (first | exact ⟨q20, q21⟩ | exact ⟨q30, q31⟩ | exact ⟨q40, q41⟩ | go_keep)
        (first
          | (go_at_call_of 23 (Value.int .i64 (n0 : Int)); refine (put_at n0 (by omega) w1 _ (by assumption)).mono ?_; rintro e w2 ⟨g2, c2, rfl, o2, r2, b2⟩; obtain ⟨q20, q21⟩ := dUnhide HC w2 b2)
          | (go_at_call_of 23 (Value.int .i64 (rs.length : Int)); refine (put_at rs.length (by omega) w1 _ (by assumption)).mono ?_; rintro e w3 ⟨g3, c3, rfl, o3, r3, b3⟩; obtain ⟨q30, q31⟩ := dUnhide HC w3 b3; have o2 := own_kept o2 r3)
          | (refine step_app8 rfl _ _ rfl w1.heap.size _ (numB n0) rfl o2 _ _ _ (numB rs.length) rfl o3 (by omega) b3.size ?_; intro v4 w4 o4 r4; have b4 := b3.grown r4 b3.size (fun k hk => (o2.lt k hk).1); obtain ⟨q40, q41⟩ := dUnhide HC w4 b4)
          | fail)
      all_goals
        go_wp2_with fail
        go_meet
        case rel => exact ⟨own_len8 o4, b4⟩
    case rest =>
      obtain ⟨ho, hb⟩ := hcut
      have lp : (numB n0 ++ numB rs.length).length ≤ 18 := by simp only [List.length_append]; omega
      generalize numB n0 ++ numB rs.length = pre at *
      have HO := dHide ho
      have HB := dHide hb
      clear k0 k1 ho hb
      go_wp2
      go_loopw [6, 7] (fun ov x wr => ∃ k : Nat, x = .int .i64 (k : Int) ∧ k ≤ rs.length ∧ wr.ownsRow w1.heap.size 5 1 ov (pre ++ ((rs.map Nst.m).take k).flatMap erB).length (bcells (pre ++ ((rs.map Nst.m).take k).flatMap erB)) ∧ Below w1.heap.size w1 wr) (fun _ x _ => rs.length - (intOf x).toNat)
      case atStart => exact ⟨0, rfl, Nat.zero_le _, by simpa using dUnhide HO, dUnhide HB⟩
      case round =>
        clear HO HB
        obtain ⟨k, rfl, hk, ho, hb⟩ := hrel
        obtain ⟨x0, -⟩ := dUnhide HC wr hb
        by_cases hlt : (k : Int) < (rs.length : Int)
        · have hkl : k < rs.length := by omega
          obtain ⟨b, off, rfl, hc⟩ := (dUnhide HR wr (belowThen B1 hb)).era hkl
          obtain ⟨c0, c1, c2⟩ := hc k hkl
          have hkm : k < (rs.map Nst.m).length := by simpa using hkl
          have hS := ersB_take (rs.map Nst.m) k hkm
          rw [List.getElem_map] at hS
          have hS := dHide hS
          have hy := dUnhide HE rs[k].m (List.mem_map.2 ⟨_, List.getElem_mem hkl, rfl⟩)
          have hfl := ersB_len ((rs.map Nst.m).take k)
          have hsl := sumN_le (rs.map Nst.m) k
          have hns := sumN_mem (ms := rs.map Nst.m) (k := k) hkm
          rw [List.getElem_map] at hns
          have hss := dUnhide HS
          rw [List.length_map] at hss
          rw [List.length_take, List.length_map] at hfl
          have HNk := dHide fun W (hB : Below w1.heap.size w1 W) => dUnhide HN W (belowThen B1 hB) k hkl
          generalize rs[k] = y at *
          generalize ((rs.map Nst.m).take k).flatMap erB = FK at *
          obtain ⟨na, nc, ⟨ns, cl, la⟩⟩ := y
          obtain ⟨g0, g1, g2⟩ := hy
          unfold ErAt at hc
          simp only [Sv] at c0 c1 c2 g0 g1 g2 hns HNk
          obtain ⟨n2, rfl⟩ := Int.eq_ofNat_of_zero_le g1
          have E0 := Bx.new wr [.slice na ns.length nc, .bool cl, .int .i64 (n2 : Int)] 57
          have bE := ba wr (.cells #[.slice na ns.length nc, .bool cl, .int .i64 (n2 : Int)] 57)
          have bwE := belowThen hb bE
          have o1 := own_kept ho (Below.row bE none)
          have apE : Hid (u6.ownBlock ≠ some wr.heap.size) := fun e => by have := (ho.lt _ e).2; omega
          have l3 := lstB_len ns
          have p3 := lstB_pos ns
          have l4 := numB_len (bitN cl)
          have l5 := numB_len n2
          have hnl : ns.length ≤ 1048576 := by omega
          have hbit : bitN cl ≤ 9223372036854775807 := by cases cl <;> decide
          have HL := dHide fun W (hB : Below w1.heap.size w1 W) => list_at (.slice na ns.length nc) ns w1 W (dUnhide HNk W hB) g0 (by omega) hB
          have hpl : (pre ++ FK).length ≤ 18 + 36 * 1048576 := by rw [List.length_append]; omega
          have hS' : Hid (((rs.map Nst.m).take (k + 1)).flatMap erB = FK ++ (lstB ns ++ numB (bitN cl) ++ numB n2)) := by
            have := dUnhide hS
            rw [Hid, this]
            rfl
          clear hc hS bE ho hb HE HR HN HNk HS hfl hsl hss hkm
          go_wp2_with fail
          clear c0 c1 c2 x0
          generalize wr.alloc (.cells #[.slice na ns.length nc, .bool cl, .int .i64 (n2 : Int)] 57) = wE at *
          generalize wr.heap.size = eb at *
          have E1 : Bx wE.drew eb [.slice na ns.length nc, .bool cl, .int .i64 (n2 : Int)] := E0
          have bEd : Below w1.heap.size w1 wE.drew := bwE.drew
          have z0 := E0 0 _ rfl
          have z1 := E0 1 _ rfl
          go_cut [6] (fun ov wx => wx.ownsRow w1.heap.size 5 1 ov (pre ++ FK ++ lstB ns ++ numB (bitN cl)).length (bcells (pre ++ FK ++ lstB ns ++ numB (bitN cl))) ∧ Bx wx eb [.slice na ns.length nc, .bool cl, .int .i64 (n2 : Int)] ∧ Below w1.heap.size w1 wx)
          case first =>
            clear EB hS' B1 HC hbr
            generalize pre ++ FK = PF at *
            have hpos : 0 < (PF ++ lstB ns).length := by rw [List.length_append]; omega
            have noNe : (none : Option Nat) ≠ some eb := by simp
            have noU : ∀ z, (Value.slice na ns.length nc) ≠ .int .u8 z := fun z h => by cases h
            replace o1 : wE.drew.ownsRow w1.heap.size 5 1 u6 PF.length (bcells PF) := o1
            go_region_held3 (fun W => W.cell? ⟨eb, 0, none⟩ = some (.slice na ns.length nc) ∧ W.cell? ⟨eb, 1, none⟩ = some (.bool cl)) (first | exact ⟨E2 0 _ rfl, E2 1 _ rfl⟩ | exact ⟨E3 0 _ rfl, E3 1 _ rfl⟩ | exact ⟨E4 0 _ rfl, E4 1 _ rfl⟩ | exact ⟨E5 0 _ rfl, E5 1 _ rfl⟩ | go_keep)
              (first
                | (go_at_call 24; refine (dUnhide HL _ (by assumption)).mono ?_; rintro e w2 ⟨g2, c2, rfl, o2, r2, b2⟩; have E2 := Bx.grown E1 r2 noNe; have o1 := own_kept o1 r2)
                | (refine step_app8 rfl _ _ rfl w1.heap.size _ PF rfl o1 _ _ _ (lstB ns) rfl o2 (by omega) b2.size ?_; intro v3 w3 o3 r3; have b3 := b2.grown r3 b2.size (fun k hk => (o1.lt k hk).1); have E3 := Bx.grown E2 r3 (dUnhide apE))
                | (go_at_call 25; refine (l3Bit_any cl _).mono ?_; rintro e w' ⟨rfl, rfl⟩)
                | (go_at_call 23; refine (put_at (bitN cl) hbit w1 _ (by assumption)).mono ?_; rintro e w4 ⟨g4, c4, rfl, o4, r4, b4⟩; have E4 := Bx.grown E3 r4 noNe; have o3 := own_kept o3 r4)
                | (refine step_app8 rfl _ _ rfl w1.heap.size _ (PF ++ lstB ns) rfl o3 _ _ _ (numB (bitN cl)) rfl o4 (by simp only [List.length_append]; omega) b4.size ?_; intro v5 w5 o5 r5; have b5 := b4.grown r5 b4.size (fun k hk => (o3.lt k hk).1); have E5 := Bx.grown E4 r5 (own_apartV o3 hpos (E4 0 _ rfl) noU))
                | fail)
            all_goals
              go_wp2_with fail
              go_meet
              case rel => exact ⟨own_len8 o5, E5, b5⟩
          case rest =>
            obtain ⟨ho, hX, hb⟩ := hcut
            have z2 := hX 2 _ rfl
            have CT := put_at n2 (by omega) w1 _ hb
            have hFF : (pre ++ FK ++ lstB ns ++ numB (bitN cl)).length ≤ 100 * 1048576 := by simp only [List.length_append] at hpl ⊢; omega
            clear E0 E1 bEd z0 z1 o1 bwE apE hX
            go_wp2_with fail
            refine CT.mono ?_
            rintro e w6 ⟨g6, c6, rfl, o6, r6, b6⟩
            have ho6 := own_kept ho r6
            clear CT ho hb z2 r6
            go_wp2_with (at_builtin; refine app8 _ rfl _ _ rfl w1.heap.size _ (pre ++ FK ++ lstB ns ++ numB (bitN cl)) rfl ho6 ⟨g6, 0, none⟩ _ _ (numB n2) rfl rfl (o6.cells rfl) ?c3 b6.size ?_)
            case c3 => omega
            intro v7 w7 o7 r7
            have b7 := b6.grown r7 b6.size (fun k hk => (ho6.lt k hk).1)
            have hrel : Hid (w7.ownsRow w1.heap.size 5 1 v7 (pre ++ ((rs.map Nst.m).take (k + 1)).flatMap erB).length (bcells (pre ++ ((rs.map Nst.m).take (k + 1)).flatMap erB))) := by
              rw [Hid, dUnhide hS']
              have := own_len8 o7
              simpa only [List.append_assoc] using this
            clear o7 r7 ho6 o6 b6
            go_wp2
            go_roundw
            case rel => exact ⟨k + 1, by go_num, by omega, dUnhide hrel, b7⟩
            case measure => simp [intOf]; omega
        · have e1 : (rs.map Nst.m).take k = rs.map Nst.m := List.take_of_length_le (by rw [List.length_map]; omega)
          rw [e1] at ho
          have Q := dHide ((dUnhide EB) ▸ ownB_of_row (own_mono ho B1.size))
          have BF := belowThen B1 hb
          clear e1 ho HR HN HE HC HS
          go_wp2
          go_ret2
          exact ⟨⟨_, rfl, dUnhide Q⟩, BF⟩
  · obtain rfl := hr.of_no hp
    have eM := dUnhide PN hp
    subst eM
    clear hr hp HR HN HX PY PN PF HS
    go_wp2
    go_ret2
    exact ⟨⟨_, rfl, by simp, _, _, rfl, by simp, .inl rfl⟩, B1.alloc B1.size _⟩
end Go.Proofs.YthndkkjgjhgdnaaGreatDoor
namespace Go.Proofs.YthndkkjgjhgdnaaGreatDoor
open Go.ChangeShapes Go.WideShapes Go.ChangeAt Go.RowKit
set_option linter.unusedVariables false
set_option linter.unusedSimpArgs false
set_option maxRecDepth 100000

set_option maxHeartbeats 4000000 in
theorem addEra_x (B : Nat) (w0 : World) (b : Value) (bs : List UInt8) (na : Option Addr) (nc : Nat) (ns : List Int) (cl : Bool) (n2 : Nat) (h0 : natI ns) (hnl : ns.length ≤ 1048576) (h2 : n2 ≤ 9223372036854775807) (HV : ∀ W, Below B w0 W → Ns W (.slice na ns.length nc) ns) (hbs : bs.length ≤ 1000000000) (w : World) (hb0 : Below B w0 w) (hown0 : OwnX w B b bs) (hB : B ≤ w.heap.size) :
    Calls Tryz.prog 91 #[b, .agg #[.slice na ns.length nc, .bool cl, .int .i64 (n2 : Int)]] w fun e w' => ∃ v, e = .returned v ∧ OwnX w' B v (bs ++ ((lstB ns ++ flgB cl) ++ numB n2)) ∧ Onto w w' b v := by
  have l0 := lstB_len ns
  have l1 := flgB_len cl
  have HV := dHide HV
  have X0 := Bx.new w [.slice na ns.length nc, .bool cl, .int .i64 (n2 : Int)] 57
  have O0 := hown0.alloc (.cells #[.slice na ns.length nc, .bool cl, .int .i64 (n2 : Int)] 57)
  have T0 := (Onto.refl w b).alloc (.cells #[.slice na ns.length nc, .bool cl, .int .i64 (n2 : Int)] 57)
  have HZ := dHide fun (W : World) (v : Value) (h : Onto w W b v) => h.at hown0 hb0 hB
  have Z0 := dUnhide HZ _ _ T0
  have ES : Hid (bs ++ ((lstB ns ++ flgB cl) ++ numB n2) = (((bs ++ lstB ns) ++ flgB cl) ++ numB n2)) := by simp only [Hid, List.append_assoc]
  have NB : b.ownBlock ≠ some w.heap.size := fun e => by have := (hown0.lt _ e).2; omega
  have NB := dHide NB
  clear hown0 hb0
  go_enter Tryz.func91, Tryz.ntmps91
  have k0 := X0 0 _ rfl
  go_wp2_with fail
  generalize w.alloc (.cells #[.slice na ns.length nc, .bool cl, .int .i64 (n2 : Int)] 57) = wb at *
  have U0 := Onto.refl wb b
  have C := addListI_x B w0 b bs (.slice na ns.length nc) ns h0 (by omega) (by first | omega | (simp only [List.length_append]; omega)) (dUnhide HV) wb Z0.1 O0 Z0.2
  refine C.mono ?_
  rintro e w1 ⟨v1, rfl, O1, t1⟩
  have U1 := U0.trans t1
  have Z1 := dUnhide HZ _ _ (T0.trans U1)
  clear C Z0 O0 t1 U0 k0
  have k1 := (X0.grown U1.1 (dUnhide NB)) 1 _ rfl
  have C := addFlag_x B v1 (bs ++ lstB ns) cl w1 O1 (by first | omega | (simp only [List.length_append]; omega)) Z1.2
  go_wp2_with fail
  refine C.mono ?_
  rintro e w2 ⟨v2, rfl, O2, t2⟩
  have U2 := U1.trans t2
  have Z2 := dUnhide HZ _ _ (T0.trans U2)
  clear C Z1 O1 t2 U1 k1
  have k2 := (X0.grown U2.1 (dUnhide NB)) 2 _ rfl
  have C := addNum_x B v2 ((bs ++ lstB ns) ++ flgB cl) n2 (by omega) w2 O2 (by first | omega | (simp only [List.length_append]; omega)) Z2.2
  go_wp2_with fail
  refine C.mono ?_
  rintro e w3 ⟨v3, rfl, O3, t3⟩
  have U3 := U2.trans t3
  have Z3 := dUnhide HZ _ _ (T0.trans U3)
  clear C Z2 O2 t3 U2 k2
  have F := dHide (And.intro O3 (T0.trans U3))
  clear O3 U3 T0 X0 HZ NB Z3
  go_wp2
  go_ret
  refine ⟨_, rfl, ?_⟩
  rw [dUnhide ES]
  exact dUnhide F
set_option maxHeartbeats 4000000 in
theorem addListEra_x (B : Nat) (w0 : World) (b : Value) (bs : List UInt8) (a : Option Addr) (cap : Nat) (rs : List (Nst Er)) (hl : rs.length ≤ 1048576) (hfl : ∀ k, (((rs.map Nst.m).take k).flatMap erB).length ≤ 100000000) (hbs : bs.length ≤ 800000000) (HR : ∀ W, Below B w0 W → Rw 3 erCl W (.slice a rs.length cap) rs)
    (HE : ∀ k (hk : k < rs.length) u xs W, Below B w0 W → OwnX W B u xs → xs.length ≤ 1000000000 → B ≤ W.heap.size → Calls Tryz.prog 91 #[u, .agg #[.slice rs[k].a rs[k].m.nodes.length rs[k].c, .bool rs[k].m.closed, .int .i64 rs[k].m.last]] W fun e w' => ∃ v, e = .returned v ∧ OwnX w' B v (xs ++ erB (Nst.m rs[k])) ∧ Onto W w' u v)
    (w : World) (hb0 : Below B w0 w) (hown0 : OwnX w B b bs) (hB : B ≤ w.heap.size) :
    Calls Tryz.prog 90 #[b, .slice a rs.length cap, .func (.func 91) #[] #[]] w fun e w' => ∃ v, e = .returned v ∧ OwnX w' B v (bs ++ (numB rs.length ++ (rs.map Nst.m).flatMap erB)) ∧ Onto w w' b v := by
  have HR := dHide HR
  have HE := dHide HE
  have HF := dHide hfl
  have C := dHide (addNum_x B b bs rs.length (by omega) w hown0 (by omega) hB)
  have n9 := numB_len rs.length
  have ES : Hid (bs ++ (numB rs.length ++ (rs.map Nst.m).flatMap erB) = (bs ++ numB rs.length) ++ (rs.map Nst.m).flatMap erB) := by simp only [Hid, List.append_assoc]
  have hhd : (bs ++ numB rs.length).length ≤ 800000009 := by rw [List.length_append]; omega
  generalize bs ++ numB rs.length = hd at *
  clear hfl
  go_enter Tryz.func90, Tryz.ntmps90
  go_wp2_with fail
  refine (dUnhide C).mono ?_
  rintro e w1 ⟨v1, rfl, O1, T1⟩
  have B1 := T1.at hown0 hb0 hB
  clear C n9 hown0 hb0
  go_wp2
  go_loopw [0, 15] (fun o xv wr => ∃ k : Nat, xv = .int .i64 (k : Int) ∧ k ≤ rs.length ∧ OwnX wr B o (hd ++ ((rs.map Nst.m).take k).flatMap erB) ∧ Onto w wr b o ∧ Below B w0 wr ∧ B ≤ wr.heap.size) (fun _ xv _ => rs.length - (intOf xv).toNat)
  case atStart => exact ⟨0, rfl, Nat.zero_le _, by simpa using O1, T1, B1.1, B1.2⟩
  case round =>
    clear O1 T1 B1
    obtain ⟨k, rfl, hk, ho, ht, hb, hbz⟩ := hrel
    by_cases hlt : (k : Int) < (rs.length : Int)
    · have hkl : k < rs.length := by omega
      obtain ⟨bk, off, rfl, hc⟩ := (dUnhide HR wr hb).era hkl
      obtain ⟨c0, c1, c2⟩ := hc k hkl
      have hS : ((rs.map Nst.m).take (k + 1)).flatMap erB = ((rs.map Nst.m).take k).flatMap erB ++ erB (Nst.m rs[k]) := by
        have hkm : k < (rs.map Nst.m).length := by simpa using hkl
        rw [List.take_succ_eq_append_getElem hkm, List.flatMap_append, List.flatMap_cons, List.flatMap_nil, List.append_nil, List.getElem_map]
      have hfk := dUnhide HF k
      have AE := dHide (dUnhide HE k hkl)
      generalize rs[k] = y at *
      generalize ((rs.map Nst.m).take k).flatMap erB = FK at *
      obtain ⟨ya, yc, ⟨ns, cl, la⟩⟩ := y
      simp only [Sv] at *
      have bA : Below wr.heap.size wr (wr.alloc (.cells #[.slice ya ns.length yc, .bool cl, .int .i64 la] 57)) := (Below.refl _ _).alloc (Nat.le_refl _) _
      have FIN : Hid (∀ v5 w5, OwnX w5 B v5 ((hd ++ FK) ++ erB ⟨ns, cl, la⟩) → Onto (wr.alloc (.cells #[.slice ya ns.length yc, .bool cl, .int .i64 la] 57)) w5 u0 v5 → OwnX w5 B v5 (hd ++ ((rs.map Nst.m).take (k + 1)).flatMap erB) ∧ Onto w w5 b v5 ∧ Below B w0 w5 ∧ B ≤ w5.heap.size) := fun v5 w5 h1 h2 => by
        have q1 := ht.trans (((Onto.refl wr u0).alloc (.cells #[.slice ya ns.length yc, .bool cl, .int .i64 la] 57)).trans h2)
        have q2 := ((Onto.refl wr u0).alloc (.cells #[.slice ya ns.length yc, .bool cl, .int .i64 la] 57)).trans h2
        exact ⟨by rw [hS, ← List.append_assoc]; exact h1, q1, q2.at ho hb hbz⟩
      have AE := dHide (dUnhide AE u0 (hd ++ FK) (wr.alloc (.cells #[.slice ya ns.length yc, .bool cl, .int .i64 la] 57)) (hb.trans (bA.mono hbz)) (ho.alloc _) (by rw [List.length_append]; omega) (Nat.le_trans hbz bA.size))
      clear hc ho ht hS hb bA hfk
      go_wp2_with fail
      refine (dUnhide AE).mono ?_
      rintro e w5 ⟨v5, rfl, O5, T5⟩
      have F := dHide (dUnhide FIN v5 w5 O5 T5)
      clear O5 T5 FIN AE c0 c1 c2
      go_wp2
      go_roundw
      case rel => exact ⟨k + 1, by go_num, by omega, (dUnhide F).1, (dUnhide F).2.1, (dUnhide F).2.2.1, (dUnhide F).2.2.2⟩
      case measure => simp [intOf]; omega
    · have e1 : (rs.map Nst.m).take k = rs.map Nst.m := List.take_of_length_le (by rw [List.length_map]; omega)
      rw [e1] at ho
      have Q := dHide (And.intro ho ht)
      clear e1 ho ht hb
      go_wp2
      go_ret
      refine ⟨_, rfl, ?_⟩
      rw [dUnhide ES]
      exact dUnhide Q
set_option maxHeartbeats 4000000 in
theorem addRegister_x (B : Nat) (w0 : World) (b : Value) (bs : List UInt8) (n0 : Nat) (h0 : n0 ≤ 9223372036854775807) (a : Option Addr) (cap : Nat) (rs : List (Nst Er)) (hl : rs.length ≤ 1048576) (hfl : ∀ k, (((rs.map Nst.m).take k).flatMap erB).length ≤ 100000000) (HR : ∀ W, Below B w0 W → Rw 3 erCl W (.slice a rs.length cap) rs) (HE : ∀ k (hk : k < rs.length) u xs W, Below B w0 W → OwnX W B u xs → xs.length ≤ 1000000000 → B ≤ W.heap.size → Calls Tryz.prog 91 #[u, .agg #[.slice rs[k].a rs[k].m.nodes.length rs[k].c, .bool rs[k].m.closed, .int .i64 rs[k].m.last]] W fun e w' => ∃ v, e = .returned v ∧ OwnX w' B v (xs ++ erB (Nst.m rs[k])) ∧ Onto W w' u v) (hbs : bs.length ≤ 700000000) (w : World) (hb0 : Below B w0 w) (hown0 : OwnX w B b bs) (hB : B ≤ w.heap.size) :
    Calls Tryz.prog 49 #[b, .agg #[.slice a rs.length cap, .int .i64 (n0 : Int)]] w fun e w' => ∃ v, e = .returned v ∧ OwnX w' B v (bs ++ (numB n0 ++ (numB rs.length ++ (rs.map Nst.m).flatMap erB))) ∧ Onto w w' b v := by
  have HF := dHide hfl
  have HR := dHide HR
  have HE := dHide HE
  clear hfl
  have l0 := numB_len n0
  have X0 := Bx.new w [.slice a rs.length cap, .int .i64 (n0 : Int)] 29
  have O0 := hown0.alloc (.cells #[.slice a rs.length cap, .int .i64 (n0 : Int)] 29)
  have T0 := (Onto.refl w b).alloc (.cells #[.slice a rs.length cap, .int .i64 (n0 : Int)] 29)
  have HZ := dHide fun (W : World) (v : Value) (h : Onto w W b v) => h.at hown0 hb0 hB
  have Z0 := dUnhide HZ _ _ T0
  have ES : Hid (bs ++ (numB n0 ++ (numB rs.length ++ (rs.map Nst.m).flatMap erB)) = ((bs ++ numB n0) ++ (numB rs.length ++ (rs.map Nst.m).flatMap erB))) := by simp only [Hid, List.append_assoc]
  have NB : b.ownBlock ≠ some w.heap.size := fun e => by have := (hown0.lt _ e).2; omega
  have NB := dHide NB
  clear hown0 hb0
  go_enter Tryz.func49, Tryz.ntmps49
  have k0 := X0 1 _ rfl
  go_wp2_with fail
  generalize w.alloc (.cells #[.slice a rs.length cap, .int .i64 (n0 : Int)] 29) = wb at *
  have U0 := Onto.refl wb b
  have C := addNum_x B b bs n0 (by omega) wb O0 (by first | omega | (simp only [List.length_append]; omega)) Z0.2
  refine C.mono ?_
  rintro e w1 ⟨v1, rfl, O1, t1⟩
  have U1 := U0.trans t1
  have Z1 := dUnhide HZ _ _ (T0.trans U1)
  clear C Z0 O0 t1 U0 k0
  have k1 := (X0.grown U1.1 (dUnhide NB)) 0 _ rfl
  have C := addListEra_x B w0 v1 (bs ++ numB n0) a cap rs hl (dUnhide HF) (by first | omega | (simp only [List.length_append]; omega)) (dUnhide HR) (dUnhide HE) w1 Z1.1 O1 Z1.2
  go_wp2_with fail
  refine C.mono ?_
  rintro e w2 ⟨v2, rfl, O2, t2⟩
  have U2 := U1.trans t2
  have Z2 := dUnhide HZ _ _ (T0.trans U2)
  clear C Z1 O1 t2 U1 k1
  have F := dHide (And.intro O2 (T0.trans U2))
  clear O2 U2 T0 X0 HZ NB Z2
  go_wp2
  go_ret
  refine ⟨_, rfl, ?_⟩
  rw [dUnhide ES]
  exact dUnhide F
end Go.Proofs.YthndkkjgjhgdnaaGreatDoor
