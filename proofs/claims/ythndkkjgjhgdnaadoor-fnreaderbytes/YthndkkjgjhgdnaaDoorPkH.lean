/- Records as bytes: spec's ReaderPack. -/
import Derived.Test.YthndkkjgjhgdnaaDoorHp1
import Derived.Deep.RegionHeld3
import Derived.Deep.DeepCutAuto
namespace Go.Proofs.YthndkkjgjhgdnaaDoor
open Go.ChangeShapes Go.WideShapes Go.ChangeAt Go.RowKit
set_option linter.unusedVariables false
set_option linter.unusedSimpArgs false
set_option maxRecDepth 100000

/-- The bytes of an event, and of a reader. -/
def evB (e : Ev) : List UInt8 := numB e.kind.toNat ++ numB e.pl.toNat ++ textB e.data.data.toList
def rdB (m : Rr) : List UInt8 := numB m.epoch.toNat ++ numB m.off.toNat ++ numB m.out.length ++ m.out.flatMap evB
open Classical in
/-- ReaderPack. -/
noncomputable def rdM (m : Rr) : List UInt8 × Bool := if rdPk m then (rdB m, true) else ([], false)
theorem rdM_yes {m : Rr} (h : rdPk m) : rdM m = (rdB m, true) := if_pos h
theorem rdM_no {m : Rr} (h : ¬ rdPk m) : rdM m = ([], false) := if_neg h
theorem evB_len {e : Ev} (h : evPk e) : (evB e).length ≤ 67 := by
  have h1 := numB_len e.kind.toNat
  have h2 := numB_len e.pl.toNat
  have h3 := numB_len e.data.data.toList.length
  have h4 : e.data.data.toList.length = e.data.size := by rw [← Lib.size_eq]
  have h5 := h.2.2
  unfold evB textB
  simp only [List.length_append]
  omega
theorem evsB_len (es : List Ev) (h : ∀ e ∈ es, evPk e) : (es.flatMap evB).length ≤ 67 * es.length := by
  induction es with
  | nil => simp
  | cons e es ih =>
    have h1 := evB_len (h e (by simp))
    have h2 := ih fun x hx => h x (by simp [hx])
    rw [List.flatMap_cons, List.length_append, List.length_cons]
    omega
theorem evsB_take (es : List Ev) (k : Nat) (h : k < es.length) : (es.take (k + 1)).flatMap evB = (es.take k).flatMap evB ++ evB es[k] := by
  rw [List.take_succ_eq_append_getElem h, List.flatMap_append, List.flatMap_cons, List.flatMap_nil, List.append_nil]
/-- A row of bytes is not a block whose first cell is an int. -/
theorem own_apart17 {w : World} {B b n : Nat} {v : Value} {bs : List UInt8} {x : Int} (h : w.ownsRow B 5 1 v n (bcells bs)) (hn : 0 < bs.length) (hc : w.cell? ⟨b, 0, none⟩ = some (.int .i64 x)) : v.ownBlock ≠ some b := by
  have e : n = bs.length := by have := h.1; simp [bcells] at this; omega
  obtain ⟨g, cap, rfl⟩ := own_some h (by omega)
  intro e2
  have e3 : g = b := by simpa [Value.ownBlock] using e2
  subst e3
  have h1 := h.cells rfl 0 (.int .u8 (bs[0].toNat : Int)) (by simp only [bcells, List.getElem?_map, List.getElem?_eq_getElem hn, Option.map_some])
  have h2 : (⟨g, 0, none⟩ : Addr).add 0 = ⟨g, 0, none⟩ := rfl
  rw [h2, hc] at h1
  simp at h1
set_option maxHeartbeats 4000000 in
theorem specReaderPack_any (v : Value) (m : Rr) (w : World) (hv : RdReader v m w) (hfit : ∀ e ∈ m.out, e.pl ≤ 9223372036854775807) :
    Calls Tryd.prog 15 #[v] w fun e w' => (∃ u, e = .returned (.tuple #[u, .bool (rdM m).2]) ∧ OwnB w' w.heap.size u (rdM m).1) ∧ Below w.heap.size w w' := by
  have ba : ∀ (w : World) o, Below w.heap.size w (w.alloc o) := fun w o => (Below.refl _ _).alloc (Nat.le_refl _) o
  have CR := dHide fun W (hb : Below w.heap.size w W) => specReader17_any v m W (hv.below hb)
  obtain ⟨sv, rfl, hs⟩ := hv
  have HV := dHide fun W (hb : Below w.heap.size w W) => RdEventS.below hs hb
  obtain ⟨a, cap, rfl, hle⟩ := formEventS hs
  have PY : Hid (rdPk m → rdM m = (numB m.epoch.toNat ++ numB m.off.toNat ++ numB m.out.length ++ m.out.flatMap evB, true)) := rdM_yes
  have PN : Hid (¬ rdPk m → rdM m = ([], false)) := rdM_no
  generalize rdM m = M at *
  have X0 := dHide (Bx.new w [.int .i64 m.epoch, .int .i64 m.off, .slice a m.out.length cap] 36)
  have B0 := ba w (.cells #[.int .i64 m.epoch, .int .i64 m.off, .slice a m.out.length cap] 36)
  clear hs
  go_enter Tryd.func15, Tryd.ntmps15
  go_wp2_with fail
  generalize w.alloc (.cells #[.int .i64 m.epoch, .int .i64 m.off, .slice a m.out.length cap] 36) = w0 at *
  refine (dUnhide CR _ B0).mono ?_
  rintro r w1 ⟨hr, b1⟩
  have B1 := belowThen B0 b1
  have X1 := (dUnhide X0).below b1
  have k0 := X1 0 _ rfl
  have k1 := X1 1 _ rfl
  have k2 := X1 2 _ rfl
  have HX := dHide X1
  clear CR X0 X1 B0 b1
  by_cases hp : rdPk m
  · obtain rfl := hr.of_yes hp
    have eM := dUnhide PY hp
    obtain ⟨hev, ⟨e0, e1⟩, ⟨f0, f1⟩, hl⟩ := hp
    obtain ⟨mb, mo⟩ := M
    obtain ⟨EB, rfl⟩ := Prod.mk.injEq .. ▸ eM
    generalize m.epoch = y0 at *
    generalize m.off = y1 at *
    generalize m.out = es at *
    obtain ⟨n0, rfl⟩ := Int.eq_ofNat_of_zero_le (show 0 ≤ y0 by omega)
    obtain ⟨n1, rfl⟩ := Int.eq_ofNat_of_zero_le (show 0 ≤ y1 by omega)
    rw [Int.toNat_natCast, Int.toNat_natCast] at EB
    replace EB := dHide EB
    have HE := dHide fun e he => (⟨hev e he, hfit e he⟩ : evPk e ∧ e.pl ≤ 9223372036854775807)
    have l0 := numB_len n0
    have l1 := numB_len n1
    have l2 := numB_len es.length
    have hbr : Below w1.heap.size w1 w1.drew := (Below.refl _ _).drew
    have HC : Hid (∀ W, Below w1.heap.size w1 W → W.cell? ⟨w.heap.size, 0, none⟩ = some (.int .i64 (n0 : Int)) ∧ W.cell? ⟨w.heap.size, 1, none⟩ = some (.int .i64 (n1 : Int)) ∧ W.cell? ⟨w.heap.size, 2, none⟩ = some (.slice a es.length cap)) := fun W hb => ⟨((dUnhide HX).below hb) 0 _ rfl, ((dUnhide HX).below hb) 1 _ rfl, ((dUnhide HX).below hb) 2 _ rfl⟩
    clear hr PY PN hev HX eM hfit
    go_wp2_with fail
    go_cut [4] (fun ov wx => wx.ownsRow w1.heap.size 5 1 ov (numB n0 ++ numB n1 ++ numB es.length).length (bcells (numB n0 ++ numB n1 ++ numB es.length)) ∧ Below w1.heap.size w1 wx)
    case first =>
      clear HV HE EB B1
      go_region_held3 (fun W => W.cell? ⟨w.heap.size, 0, none⟩ = some (.int .i64 (n0 : Int)) ∧ W.cell? ⟨w.heap.size, 1, none⟩ = some (.int .i64 (n1 : Int)) ∧ W.cell? ⟨w.heap.size, 2, none⟩ = some (.slice a es.length cap)) (first | exact ⟨q20, q21, q22⟩ | exact ⟨q30, q31, q32⟩ | exact ⟨q40, q41, q42⟩ | exact ⟨q50, q51, q52⟩ | exact ⟨q60, q61, q62⟩ | go_keep)
        (first
          | (go_at_call_of 26 (Value.int .i64 (n0 : Int)); refine (put_at n0 (by omega) w1 _ (by assumption)).mono ?_; rintro e w2 ⟨g2, c2, rfl, o2, r2, b2⟩; obtain ⟨q20, q21, q22⟩ := dUnhide HC w2 b2)
          | (go_at_call_of 26 (Value.int .i64 (n1 : Int)); refine (put_at n1 (by omega) w1 _ (by assumption)).mono ?_; rintro e w3 ⟨g3, c3, rfl, o3, r3, b3⟩; obtain ⟨q30, q31, q32⟩ := dUnhide HC w3 b3; have o2 := own_kept o2 r3)
          | (refine step_app8 rfl _ _ rfl w1.heap.size _ (numB n0) rfl o2 _ _ _ (numB n1) rfl o3 (by omega) b3.size ?_; intro v4 w4 o4 r4; have b4 := b3.grown r4 b3.size (fun k hk => (o2.lt k hk).1); obtain ⟨q40, q41, q42⟩ := dUnhide HC w4 b4)
          | (go_at_call_of 26 (Value.int .i64 (es.length : Int)); refine (put_at es.length (by omega) w1 _ (by assumption)).mono ?_; rintro e w5 ⟨g5, c5, rfl, o5, r5, b5⟩; obtain ⟨q50, q51, q52⟩ := dUnhide HC w5 b5; have o4 := own_kept o4 r5)
          | (refine step_app8 rfl _ _ rfl w1.heap.size _ (numB n0 ++ numB n1) rfl o4 _ _ _ (numB es.length) rfl o5 (by simp only [List.length_append]; omega) b5.size ?_; intro v6 w6 o6 r6; have b6 := b5.grown r6 b5.size (fun k hk => (o4.lt k hk).1); obtain ⟨q60, q61, q62⟩ := dUnhide HC w6 b6))
      all_goals
        go_wp2_with fail
        go_meet
        case rel => exact ⟨own_len8 o6, b6⟩
    case rest =>
      obtain ⟨ho, hb⟩ := hcut
      have lp : (numB n0 ++ numB n1 ++ numB es.length).length ≤ 27 := by simp only [List.length_append]; omega
      generalize numB n0 ++ numB n1 ++ numB es.length = pre at *
      have HO := dHide ho
      have HB := dHide hb
      clear k0 k1 k2 ho hb
      go_wp2
      go_loopw [4, 5] (fun ov x wr => ∃ k : Nat, x = .int .i64 (k : Int) ∧ k ≤ es.length ∧ wr.ownsRow w1.heap.size 5 1 ov (pre ++ (es.take k).flatMap evB).length (bcells (pre ++ (es.take k).flatMap evB)) ∧ Below w1.heap.size w1 wr) (fun _ x _ => es.length - (intOf x).toNat)
      case atStart => exact ⟨0, rfl, Nat.zero_le _, by simpa using dUnhide HO, dUnhide HB⟩
      case round =>
        clear HO HB
        obtain ⟨k, rfl, hk, ho, hb⟩ := hrel
        obtain ⟨-, -, x2⟩ := dUnhide HC wr hb
        by_cases hlt : (k : Int) < (es.length : Int)
        · have hkl : k < es.length := by omega
          obtain ⟨b, off, rfl, hc⟩ := (dUnhide HV wr (belowThen B1 hb)).atEv hkl
          obtain ⟨c0, c1, c2⟩ := hc k hkl
          have hS := dHide (evsB_take es k hkl)
          have hy := dUnhide HE _ (List.getElem_mem hkl)
          have hfl := evsB_len (es.take k) fun e he => (dUnhide HE e (List.mem_of_mem_take he)).1
          rw [List.length_take] at hfl
          generalize es[k] = y at *
          generalize (es.take k).flatMap evB = FK at *
          obtain ⟨y3, y4, y5⟩ := y
          obtain ⟨⟨⟨g0, g1⟩, g2, g3⟩, g4⟩ := hy
          simp only at c0 c1 c2 g0 g1 g2 g3 g4
          obtain ⟨m3, rfl⟩ := Int.eq_ofNat_of_zero_le (show 0 ≤ y3 by omega)
          obtain ⟨m4, rfl⟩ := Int.eq_ofNat_of_zero_le g2
          have E0 := Bx.new wr [.int .i64 (m3 : Int), .int .i64 (m4 : Int), .string y5] 68
          have bE := ba wr (.cells #[.int .i64 (m3 : Int), .int .i64 (m4 : Int), .string y5] 68)
          have bwE := belowThen hb bE
          have o1 := own_kept ho (Below.row bE none)
          have apE : Hid (u4.ownBlock ≠ some wr.heap.size) := fun e => by have := (ho.lt _ e).2; omega
          have l3 := numB_len m3
          have l4 := numB_len m4
          have p3 := numB_pos m3
          have hpl : (pre ++ FK).length ≤ 27 + 67 * es.length := by rw [List.length_append]; omega
          have hS' : Hid ((es.take (k + 1)).flatMap evB = FK ++ (numB m3 ++ numB m4 ++ textB y5.data.toList)) := by
            have := dUnhide hS
            rw [Hid, this]
            rfl
          have hys : y5.data.toList.length = y5.size := by rw [← Lib.size_eq]
          have l5 : (textB y5.data.toList).length ≤ 49 := by
            have := numB_len y5.data.toList.length
            rw [textB, List.length_append]
            omega
          clear hc hS bE ho hb hys HE HV
          go_wp2_with fail
          clear c0 c1 c2 x2
          generalize wr.alloc (.cells #[.int .i64 (m3 : Int), .int .i64 (m4 : Int), .string y5] 68) = wE at *
          generalize wr.heap.size = eb at *
          have E1 : Bx wE.drew eb [.int .i64 (m3 : Int), .int .i64 (m4 : Int), .string y5] := E0
          have bEd : Below w1.heap.size w1 wE.drew := bwE.drew
          have z0 := E0 0 _ rfl
          have z1 := E0 1 _ rfl
          go_cut [4] (fun ov wx => wx.ownsRow w1.heap.size 5 1 ov (pre ++ FK ++ numB m3 ++ numB m4).length (bcells (pre ++ FK ++ numB m3 ++ numB m4)) ∧ Bx wx eb [.int .i64 (m3 : Int), .int .i64 (m4 : Int), .string y5] ∧ Below w1.heap.size w1 wx)
          case first =>
            clear EB hS' B1 HC hbr
            generalize pre ++ FK = PF at *
            have hpos : 0 < (PF ++ numB m3).length := by rw [List.length_append]; omega
            have noNe : (none : Option Nat) ≠ some eb := by simp
            replace o1 : wE.drew.ownsRow w1.heap.size 5 1 u4 PF.length (bcells PF) := o1
            go_region_held3 (fun W => W.cell? ⟨eb, 0, none⟩ = some (.int .i64 (m3 : Int)) ∧ W.cell? ⟨eb, 1, none⟩ = some (.int .i64 (m4 : Int))) (first | exact ⟨E2 0 _ rfl, E2 1 _ rfl⟩ | exact ⟨E3 0 _ rfl, E3 1 _ rfl⟩ | exact ⟨E4 0 _ rfl, E4 1 _ rfl⟩ | exact ⟨E5 0 _ rfl, E5 1 _ rfl⟩ | go_keep)
              (first
                | (go_at_call_of 26 (Value.int .i64 (m3 : Int)); refine (put_at m3 (by omega) w1 _ (by assumption)).mono ?_; rintro e w2 ⟨g2, c2, rfl, o2, r2, b2⟩; have E2 := Bx.grown E1 r2 noNe; have o1 := own_kept o1 r2)
                | (refine step_app8 rfl _ _ rfl w1.heap.size _ PF rfl o1 _ _ _ (numB m3) rfl o2 (by omega) b2.size ?_; intro v3 w3 o3 r3; have b3 := b2.grown r3 b2.size (fun k hk => (o1.lt k hk).1); have E3 := Bx.grown E2 r3 (dUnhide apE))
                | (go_at_call_of 26 (Value.int .i64 (m4 : Int)); refine (put_at m4 (by omega) w1 _ (by assumption)).mono ?_; rintro e w4 ⟨g4, c4, rfl, o4, r4, b4⟩; have E4 := Bx.grown E3 r4 noNe; have o3 := own_kept o3 r4)
                | (refine step_app8 rfl _ _ rfl w1.heap.size _ (PF ++ numB m3) rfl o3 _ _ _ (numB m4) rfl o4 (by simp only [List.length_append]; omega) b4.size ?_; intro v5 w5 o5 r5; have b5 := b4.grown r5 b4.size (fun k hk => (o3.lt k hk).1); have E5 := Bx.grown E4 r5 (own_apart17 o3 hpos (E4 0 _ rfl)))
                | fail)
            all_goals
              go_wp2_with fail
              go_meet
              case rel => exact ⟨own_len8 o5, E5, b5⟩
          case rest =>
            obtain ⟨ho, hX, hb⟩ := hcut
            have z2 := hX 2 _ rfl
            have CT := putT_at y5 (by omega) w1 _ hb
            have hFF : (pre ++ FK ++ numB m3 ++ numB m4).length ≤ 45 + 67 * es.length := by simp only [List.length_append] at hpl ⊢; omega
            clear E0 E1 bEd z0 z1 o1 bwE apE hX
            go_wp2_with fail
            refine CT.mono ?_
            rintro e w6 ⟨g6, c6, rfl, o6, r6, b6⟩
            have ho6 := own_kept ho r6
            clear CT ho hb z2 r6
            go_wp2_with (at_builtin; refine app8 _ rfl _ _ rfl w1.heap.size _ (pre ++ FK ++ numB m3 ++ numB m4) rfl ho6 ⟨g6, 0, none⟩ _ _ (textB y5.data.toList) rfl rfl (o6.cells rfl) ?c3 b6.size ?_)
            case c3 => omega
            intro v7 w7 o7 r7
            have b7 := b6.grown r7 b6.size (fun k hk => (ho6.lt k hk).1)
            have hrel : Hid (w7.ownsRow w1.heap.size 5 1 v7 (pre ++ (es.take (k + 1)).flatMap evB).length (bcells (pre ++ (es.take (k + 1)).flatMap evB))) := by
              rw [Hid, dUnhide hS']
              have := own_len8 o7
              simpa only [List.append_assoc] using this
            clear o7 r7 ho6 o6 b6
            go_wp2
            go_roundw
            case rel => exact ⟨k + 1, by go_num, by omega, dUnhide hrel, b7⟩
            case measure => simp [intOf]; omega
        · have e1 : es.take k = es := List.take_of_length_le (by omega)
          rw [e1] at ho
          have Q := dHide ((dUnhide EB) ▸ ownB_of_row (own_mono ho B1.size))
          have BF := belowThen B1 hb
          clear e1 ho HV HE HC
          go_wp2
          go_ret2
          exact ⟨⟨_, rfl, dUnhide Q⟩, BF⟩
  · obtain rfl := hr.of_no hp
    have eM := dUnhide PN hp
    subst eM
    clear hr hp HV HX PY PN
    go_wp2
    go_ret2
    exact ⟨⟨_, rfl, by simp, _, _, rfl, by simp, .inl rfl⟩, B1.alloc B1.size _⟩
end Go.Proofs.YthndkkjgjhgdnaaDoor
