/- The walk of the law FnMeet. -/
import Derived.Test.YtgedaaknkhkegaaDrwG
import Derived.Test.YtgedaaknkhkegaaDomJ
import Derived.Test.YtgedaaknkhkegaaWithN
import Derived.Test.YtgedaaknkhkegaaImplD
import Derived.Test.YtgedaaknkhkegaaBigB
import Derived.Test.YtgedaaknkhkegaaAtB
import Derived.Test.YtgedaaknkhkegaaRowB
import Derived.Deep.RegionHeld3
import Derived.Deep.DeepCutAuto
namespace Go.Proofs.Ytgedaaknkhkegaa
open Go.ChangeShapes Go.WideShapes Go.ChangeAt Go.RowKit
set_option linter.unusedVariables false
set_option linter.unusedSimpArgs false

set_option maxHeartbeats 4000000 in
set_option maxRecDepth 100000 in
theorem walkFnMeet (a0 : Option Addr) (len0 cap0 : Nat) (z0 : List Int) (w : World) (w0 : IsRow .u8 w a0 len0 cap0 z0) :
    Calls Try.prog 3 #[.slice a0 len0 cap0] w fun e w' => e = .returned (.bool true) ∧ Below w.heap.size w w' := by
  have hr := row8_of w0
  have hlen := hr.1
  clear w0
  by_cases hbig : 1048576 < len0
  · have CB := dHide (big_yes a0 len0 cap0 hbig hlen)
    go_enter Try.func3, Try.ntmps3
    go_wp2_with fail
    refine (dUnhide CB _).mono ?_
    rintro e w1 ⟨rfl, rfl⟩
    go_wp2
    go_ret
    exact ⟨rfl, Below.refl _ _⟩
  have CB := dHide (big_no a0 len0 cap0 hbig)
  have CD := dHide (drawEnough_any a0 len0 cap0 w hr)
  have ha : ∀ (w : World) o, Below w.heap.size w (w.alloc o) := fun w o => (Below.refl _ _).alloc (Nat.le_refl _) o
  have HROW := dHide hr
  clear hr
  go_enter Try.func3, Try.ntmps3
  go_wp2_with fail
  refine (dUnhide CB _).mono ?_
  rintro e w1 ⟨rfl, rfl⟩
  clear CB
  go_wp2_with fail
  refine (dUnhide CD).mono ?_
  rintro e w1 ⟨⟨c, u, v, ds, cop, xs, ys, rfl, ⟨sv, rfl, o1, hdl, hda, c0, c1⟩, ⟨ox, hxl, hxa⟩, ⟨oy, hyl, hya⟩⟩, B1⟩
  clear CD
  have n1 := o1.bs
  have n2 := ox.bs
  have n3 := oy.bs
  obtain ⟨-, sa, scap, rfl, -, -⟩ := o1
  obtain ⟨-, ua, ucap, rfl, -, -⟩ := ox
  obtain ⟨-, va, vcap, rfl, -, -⟩ := oy
  have ba := ha w1 (.cells #[.slice sa ds.length scap, .int .i64 cop] 26)
  have T2 := Two.new w1 (.slice sa ds.length scap) (.int .i64 cop) 26
  have HN1 := dHide (n1.below ba)
  have HN2 := dHide (n2.below ba)
  have HN3 := dHide (n3.below ba)
  have B2 := belowThen B1 ba
  clear n1 n2 n3 B1 ba
  go_wp2_with fail
  generalize hbx : w1.heap.size = bx at *
  generalize w1.alloc (.cells #[.slice sa ds.length scap, .int .i64 cop] 26) = w2 at *
  clear hbx
  have K : Hid (∀ W, Below w2.heap.size w2 W → (W.cell? ⟨bx, 0, none⟩ = some (.slice sa ds.length scap) ∧ W.cell? ⟨bx, 1, none⟩ = some (.int .i64 cop)) ∧ Ns W (.slice sa ds.length scap) ds ∧ Ns W (.slice ua xs.length ucap) xs ∧ Ns W (.slice va ys.length vcap) ys ∧ Below w.heap.size w W) := fun W hb => ⟨T2.kept hb, (dUnhide HN1).below hb, (dUnhide HN2).below hb, (dUnhide HN3).below hb, belowThen B2 hb⟩
  clear T2 HN1 HN2 HN3 B2
  have hb2 := Below.refl w2.heap.size w2
  obtain ⟨-, m1, m2, m3, -⟩ := dUnhide K w2 hb2
  have HDA := dHide hda
  have HXA := dHide hxa
  have HYA := dHide hya
  have CE := implEnough_any _ _ _ ds xs ys cop w2 m1 m2 m3 hda hxa hya (by omega) (by omega) (by omega) (by omega) (by omega)
  refine CE.mono ?_
  rintro e w3 ⟨h3, b3⟩
  clear CE m1 m2 m3 hda hxa hya
  have K3 : Hid (∀ W, Below w3.heap.size w3 W → (W.cell? ⟨bx, 0, none⟩ = some (.slice sa ds.length scap) ∧ W.cell? ⟨bx, 1, none⟩ = some (.int .i64 cop)) ∧ Ns W (.slice sa ds.length scap) ds ∧ Ns W (.slice ua xs.length ucap) xs ∧ Ns W (.slice va ys.length vcap) ys ∧ Below w.heap.size w W) := fun W hb => dUnhide K W (belowThen b3 hb)
  clear K b3 hb2
  have hbd : Below w3.heap.size w3 w3.drew := (Below.refl _ _).drew
  obtain ⟨⟨k0, k1⟩, -⟩ := dUnhide K3 w3 (Below.refl _ _)
  by_cases he : enoughP ds cop xs ys
  · obtain rfl := h3.of_yes he
    have hh : holdsP ds cop xs := he.1
    clear h3
    go_wp2_with fail
    go_cut [37] (fun sv wx => sv = .bool false ∧ Below w3.heap.size w3 wx)
    case first =>
      go_region_held3 (fun W => W.cell? ⟨bx, 0, none⟩ = some (.slice sa ds.length scap) ∧ W.cell? ⟨bx, 1, none⟩ = some (.int .i64 cop)) (go_keep)
        (first
          | (go_at_call 15; have KA := dUnhide K3 _ hbd; refine (specEnough_any _ _ _ ds xs ys cop _ KA.2.1 KA.2.2.1 KA.2.2.2.1 (by omega) (by omega)).mono ?_; rintro e wq ⟨hq, bq⟩; obtain rfl := hq.of_yes he; have hbE := belowThen hbd bq; obtain ⟨⟨p0, p1⟩, -⟩ := dUnhide K3 _ hbE; clear bq KA hq)
          | (go_at_call 16; first | (have KA := dUnhide K3 _ hbS; refine (implHolds_any _ _ ds xs cop _ KA.2.1 KA.2.2.1 (dUnhide HDA) (dUnhide HXA) (by omega) (by omega) (by omega) (by omega)).mono ?_; rintro e wq ⟨hq, bq⟩; obtain rfl := hq.of_yes hh; have hbSI := belowThen hbS bq; obtain ⟨⟨p0, p1⟩, -⟩ := dUnhide K3 _ hbSI; clear bq KA hq) | (have KA := dUnhide K3 _ hbE; refine (implHolds_any _ _ ds xs cop _ KA.2.1 KA.2.2.1 (dUnhide HDA) (dUnhide HXA) (by omega) (by omega) (by omega) (by omega)).mono ?_; rintro e wq ⟨hq, bq⟩; obtain rfl := hq.of_yes hh; have hbI := belowThen hbE bq; obtain ⟨⟨p0, p1⟩, -⟩ := dUnhide K3 _ hbI; clear bq KA hq))
          | (go_at_call 17; first | (have KA := dUnhide K3 _ hbI; refine (specHolds_any _ _ ds xs cop _ KA.2.1 KA.2.2.1 (by omega)).mono ?_; rintro e wq ⟨hq, bq⟩; obtain rfl := hq.of_yes hh; have hbIS := belowThen hbI bq; obtain ⟨⟨p0, p1⟩, -⟩ := dUnhide K3 _ hbIS; clear bq KA hq) | (have KA := dUnhide K3 _ hbE; refine (specHolds_any _ _ ds xs cop _ KA.2.1 KA.2.2.1 (by omega)).mono ?_; rintro e wq ⟨hq, bq⟩; obtain rfl := hq.of_yes hh; have hbS := belowThen hbE bq; obtain ⟨⟨p0, p1⟩, -⟩ := dUnhide K3 _ hbS; clear bq KA hq)))
      all_goals
        go_wp2_with fail
        go_meet
        case rel => first | exact ⟨rfl, hbSI⟩ | exact ⟨rfl, hbIS⟩
    case rest =>
      obtain ⟨rfl, bc⟩ := hcut
      have K5 : Hid (∀ W, Below wc.heap.size wc W → (W.cell? ⟨bx, 0, none⟩ = some (.slice sa ds.length scap) ∧ W.cell? ⟨bx, 1, none⟩ = some (.int .i64 cop)) ∧ Ns W (.slice sa ds.length scap) ds ∧ Ns W (.slice ua xs.length ucap) xs ∧ Ns W (.slice va ys.length vcap) ys ∧ Below w.heap.size w W) := fun W hb => dUnhide K3 W (belowThen bc hb)
      clear K3 k0 k1 hbd bc
      have hlb : len0 ≤ 1048576 := by omega
      generalize hwc : wc = w5 at *
      clear hwc
      have ha5 := ha w5 (.cells #[] 3)
      go_wp2
      go_loopw [7, 8] (fun o xi wr => ∃ (k : Nat) (zs : List Int), xi = .int .i64 (k : Int) ∧ k ≤ xs.length ∧ Hid (wr.ownsRow w5.heap.size 3 1 o zs.length (ncells zs)) ∧ Hid (Below w5.heap.size w5 wr) ∧ zs.length ≤ k ∧ Hid (∀ z ∈ zs, z ∈ xs)) (fun _ xi _ => xs.length - (intOf xi).toNat)
      case atStart => exact ⟨0, [], rfl, Nat.zero_le _, World.ownsRow_made w5 #[] 0 (Nat.le_refl _) (by decide) (by simp), ha5, by simp, (fun z h => by cases h)⟩
      case round =>
        obtain ⟨k, zs, rfl, hk, HO, HB, hzl, HA⟩ := hrel
        obtain ⟨⟨k0, k1⟩, m1, m2, m3, Bw⟩ := dUnhide K5 wr (dUnhide HB)
        by_cases hkl : (k : Int) < (xs.length : Int)
        · have hkx : k < xs.length := by omega
          have CA := dHide (at_any a0 len0 cap0 (k + 1) (by omega) wr ((dUnhide HROW).below Bw) (by omega))
          obtain ⟨h0, a9, c9, h9, -, hu⟩ := id m2
          cases h9
          obtain ⟨g, off, rfl, hc⟩ := orN_of_lt hu (k := k) hkx
          have cg := hc k hkx
          have hin : Hid (xs[k] ∈ xs) := List.getElem_mem hkx
          generalize xs[k] = x at *
          clear hu hc m1 m2 m3 Bw
          have oz := dUnhide HO
          have lz := oz.lt
          have hs5 := (dUnhide HB).size
          have ecast : ((k + 1 : Nat) : Int) = (k : Int) + 1 := by push_cast; rfl
          rw [ecast] at CA
          clear ecast
          go_wp2_with fail
          refine (dUnhide CA).mono ?_
          rintro e w6 ⟨⟨t, t0, t1, rfl⟩, rfl⟩
          clear CA
          by_cases ht : (t % 2 == 0) = true
          · go_wp2_with (at_builtin; refine appN _ rfl _ _ rfl w5.heap.size _ zs rfl (oz.alloc _) ⟨wr.heap.size, 0, none⟩ 1 1 [x] rfl rfl (one_int _ _ _) ?c3 ?c4 ?_)
            case c3 => (try simp only [List.length_cons, List.length_nil]); omega
            case c4 => simp; omega
            intro v8 w8 o8 r8
            have ba := ha wr (.cells #[.int .i64 x] 3)
            have B8 : Hid (Below w5.heap.size w5 w8) := (belowThen (dUnhide HB) ba).grown r8 (by simp; omega) (fun k hk => (lz k hk).1)
            have OZ8 := dHide (own_lenN o8)
            have HA8 : Hid (∀ z ∈ zs ++ [x], z ∈ xs) := fun z h => by
              rcases List.mem_append.1 h with h1 | h1
              · exact dUnhide HA z h1
              · rw [List.mem_singleton.1 h1]; exact dUnhide hin
            clear HO HB HA oz lz o8 r8 ba cg k0 k1
            go_wp2
            go_roundw
            case rel => exact ⟨k + 1, zs ++ [x], by go_num, by omega, OZ8, B8, by simp; omega, HA8⟩
            case measure => simp [intOf]; omega
          · have ht' : (t % 2 == 0) = false := by simpa using ht
            go_wp2
            go_roundw
            case rel => exact ⟨k + 1, zs, by go_num, by omega, HO, HB, by omega, HA⟩
            case measure => simp [intOf]; omega
        · have oz := dUnhide HO
          obtain ⟨pa, pn, pc, hpf⟩ := rowN_slice oz
          subst hpf
          obtain rfl : pn = zs.length := rowN_len oz
          have nz := rowN_ns oz
          have hzI : Hid (allInt zs) := fun d h => dUnhide HXA d (dUnhide HA d h)
          have K6 : Hid (∀ W, Below wr.heap.size wr W → (W.cell? ⟨bx, 0, none⟩ = some (.slice sa ds.length scap) ∧ W.cell? ⟨bx, 1, none⟩ = some (.int .i64 cop)) ∧ Ns W (.slice sa ds.length scap) ds ∧ Ns W (.slice ua xs.length ucap) xs ∧ Ns W (.slice va ys.length vcap) ys ∧ Ns W (.slice pa zs.length pc) zs ∧ Below w.heap.size w W) := fun W hb => by
            obtain ⟨p1, p2, p3, p4, p5⟩ := dUnhide K5 W (belowThen (dUnhide HB) hb)
            exact ⟨p1, p2, p3, p4, nz.below hb, p5⟩
          have CH := dHide (implHolds_any _ _ ds zs cop wr m1 nz (dUnhide HDA) (dUnhide hzI) (by omega) (by omega) (by omega) (by omega))
          clear K5 HB HO oz nz m1 m2 m3 Bw ha5
          have HM : Hid (holdsP ds cop zs → ∃ x ∈ zs, x ∈ ys) := fun h => meet_node he h (dUnhide HA)
          have HE := dHide he
          have HH := dHide hh
          clear he hh HA
          go_wp2_with fail
          refine (dUnhide CH).mono ?_
          rintro e w7 ⟨⟨bb, rfl, hbb⟩, b7⟩
          have K7 : Hid (∀ W, Below w7.heap.size w7 W → (W.cell? ⟨bx, 0, none⟩ = some (.slice sa ds.length scap) ∧ W.cell? ⟨bx, 1, none⟩ = some (.int .i64 cop)) ∧ Ns W (.slice sa ds.length scap) ds ∧ Ns W (.slice ua xs.length ucap) xs ∧ Ns W (.slice va ys.length vcap) ys ∧ Ns W (.slice pa zs.length pc) zs ∧ Below w.heap.size w W) := fun W hb => dUnhide K6 W (belowThen b7 hb)
          have HBB := dHide hbb
          clear CH K6 b7 k0 k1 hbb
          cases bb
          · clear HBB HM
            have K8 : Hid (∀ W, Below w7.heap.size w7 W → (W.cell? ⟨bx, 0, none⟩ = some (.slice sa ds.length scap) ∧ W.cell? ⟨bx, 1, none⟩ = some (.int .i64 cop)) ∧ Ns W (.slice sa ds.length scap) ds ∧ Ns W (.slice ua xs.length ucap) xs ∧ Ns W (.slice va ys.length vcap) ys ∧ Below w.heap.size w W) := fun W hb => by
              obtain ⟨p1, p2, p3, p4, p5, p6⟩ := dUnhide K7 W hb
              exact ⟨p1, p2, p3, p4, p6⟩
            clear K7
            obtain ⟨⟨k0, k1⟩, -⟩ := dUnhide K8 w7 (Below.refl _ _)
            have hbd : Below w7.heap.size w7 w7.drew := (Below.refl _ _).drew
            have he' := dUnhide HE
            have hh' := dUnhide HH
            have hes : enoughP ds cop xs xs := enough_self hh'
            have hrn : ¬ holdsP ds cop (lessL xs ys) := rest_not_holds he'
            have hlL := lessL_len xs ys
            have HL : Hid (allInt (lessL xs ys)) := fun d h => dUnhide HXA d (mem_lessL.1 h).1
            have HES := dHide hes
            have HRN := dHide hrn
            have HX0 := dHide he'.1.1
            have HY0 := dHide he'.2.1
            clear he' hh' hes hrn
            go_wp2_with fail
            go_region_held3 (fun W => W.cell? ⟨bx, 0, none⟩ = some (.slice sa ds.length scap) ∧ W.cell? ⟨bx, 1, none⟩ = some (.int .i64 cop)) (go_keep)
              (first
                | (go_at_call_of 16 (Value.slice ua xs.length ucap); have KA := dUnhide K8 _ hbd; refine (implHolds_any _ _ ds xs cop _ KA.2.1 KA.2.2.1 (dUnhide HDA) (dUnhide HXA) (by omega) (by omega) (by omega) (by omega)).mono ?_; rintro e wq ⟨hq, bq⟩; obtain rfl := hq.of_yes (dUnhide HH); have hbH := belowThen hbd bq; obtain ⟨⟨p0, p1⟩, -⟩ := dUnhide K8 _ hbH; clear bq KA hq)
                | (go_at_call 14; have KA := dUnhide K8 _ hbH; refine (implEnough_any _ _ _ ds xs xs cop _ KA.2.1 KA.2.2.1 KA.2.2.1 (dUnhide HDA) (dUnhide HXA) (dUnhide HXA) (by omega) (by omega) (by omega) (by omega) (by omega)).mono ?_; rintro e wq ⟨hq, bq⟩; obtain rfl := hq.of_yes (dUnhide HES); have hbE := belowThen hbH bq; obtain ⟨⟨q0, q1⟩, -⟩ := dUnhide K8 _ hbE; clear bq KA hq)
                | (go_at_call 20; have KA := dUnhide K8 _ hbE; refine (implRest_yes _ _ _ ds xs ys cop _ KA.2.1 KA.2.2.1 KA.2.2.2.1 (dUnhide HDA) (dUnhide HXA) (dUnhide HYA) (by omega) (by omega) (by omega) (by omega) (by omega) (dUnhide HX0) (dUnhide HY0)).mono ?_; rintro e wR ⟨⟨ro, rfl, orr⟩, bq⟩; have hbR := belowThen hbE bq; have OR := dHide orr.bs; obtain ⟨-, ra, rcap, rfl, -, -⟩ := orr; obtain ⟨⟨s0, s1⟩, -⟩ := dUnhide K8 _ hbR; clear bq KA)
                | (go_at_call 16; have KA := dUnhide K8 _ hbR; refine (implHolds_any _ _ ds (lessL xs ys) cop _ KA.2.1 (dUnhide OR) (dUnhide HDA) (dUnhide HL) (by omega) (by omega) (by omega) (by omega)).mono ?_; rintro e wq ⟨hq, bq⟩; obtain rfl := hq.of_no (dUnhide HRN); have hbF := belowThen hbR bq; obtain ⟨⟨t0, t1⟩, -⟩ := dUnhide K8 _ hbF; clear bq KA hq))
            all_goals
              obtain ⟨-, -, -, -, Be⟩ := dUnhide K8 _ hbF
              go_wp2
              go_ret
              exact ⟨rfl, Be⟩
          · have hmeet := dHide (dUnhide HM ((dUnhide HBB).1 rfl))
            clear HBB HM
            have hbz : zs.length ≤ 20 := by omega
            go_wp2
            go_loopw [9, 10] (fun cv xi wr => ∃ (j : Nat) (b : Bool), xi = .int .i64 (j : Int) ∧ cv = .bool b ∧ j ≤ zs.length ∧ Hid (Drew w7 wr) ∧ Hid (b = true ↔ ∃ z ∈ zs.take j, z ∈ ys)) (fun _ xi _ => zs.length - (intOf xi).toNat)
            case atStart => exact ⟨0, false, rfl, rfl, Nat.zero_le _, Drew.refl _, by simp [Hid]⟩
            case round =>
              obtain ⟨j, b, rfl, rfl, hj, hdr, HI⟩ := hrel
              obtain ⟨-, -, -, m3, m4, -⟩ := dUnhide K7 wr (dUnhide hdr).below
              by_cases hjl : (j : Int) < (zs.length : Int)
              · have hjz : j < zs.length := by omega
                obtain ⟨h0, a9, c9, h9, -, hu⟩ := id m4
                cases h9
                obtain ⟨g, off, rfl, hc⟩ := orN_of_lt hu (k := j) hjz
                have cg := hc j hjz
                have CW := dHide (within_any (.slice va ys.length vcap) ys zs[j] wr m3)
                have hst : Hid (∀ c : Bool, (c = true ↔ zs[j] ∈ ys) → ((b || c) = true ↔ ∃ z ∈ zs.take (j + 1), z ∈ ys)) := fun c hc => by
                  rw [List.take_add_one, List.getElem?_eq_getElem hjz]
                  simp only [Option.toList, List.mem_append, List.mem_singleton, Bool.or_eq_true, hc, dUnhide HI]
                  constructor
                  · rintro (⟨z, h1, h2⟩ | h1)
                    · exact ⟨z, .inl h1, h2⟩
                    · exact ⟨_, .inr rfl, h1⟩
                  · rintro ⟨z, h1 | h1, h2⟩
                    · exact .inl ⟨z, h1, h2⟩
                    · exact .inr (h1 ▸ h2)
                have hst1 : Hid (b = true → ((true : Bool) = true ↔ ∃ z ∈ zs.take (j + 1), z ∈ ys)) := fun hb => by
                  have hw : ∃ z ∈ zs.take (j + 1), z ∈ ys := by
                    obtain ⟨z, h1, h2⟩ := (dUnhide HI).1 hb
                    exact ⟨z, by rw [List.take_add_one]; exact List.mem_append_left _ h1, h2⟩
                  exact ⟨fun _ => hw, fun _ => rfl⟩
                generalize zs[j] = x at *
                clear hu hc m3 m4 h0
                cases b
                · go_wp2_with fail
                  refine (dUnhide CW).mono ?_
                  rintro e w8 ⟨⟨c, rfl, hcc⟩, rfl⟩
                  have hst' := dHide (dUnhide hst c hcc)
                  clear CW hst hst1 hcc cg
                  go_wp2
                  go_roundw
                  case rel => exact ⟨j + 1, c, by go_num, rfl, by omega, hdr, by simpa [Hid] using dUnhide hst'⟩
                  case measure => simp [intOf]; omega
                · have hst' := dHide (dUnhide hst1 rfl)
                  clear CW hst hst1 cg
                  go_wp2
                  go_roundw
                  case rel => exact ⟨j + 1, true, by go_num, rfl, by omega, hdr, hst'⟩
                  case measure => simp [intOf]; omega
              · have hb1 : b = true := (dUnhide HI).2 (by
                  obtain ⟨z, h1, h2⟩ := dUnhide hmeet
                  exact ⟨z, by rw [List.take_of_length_le (by omega)]; exact h1, h2⟩)
                subst hb1
                have K8' := dHide fun W (hb : Below wr.heap.size wr W) => dUnhide K7 W (belowThen (dUnhide hdr).below hb)
                clear K7 m3 m4 HI hmeet
                have K7 := K8'
                clear K8'
                have K8 : Hid (∀ W, Below wr.heap.size wr W → (W.cell? ⟨bx, 0, none⟩ = some (.slice sa ds.length scap) ∧ W.cell? ⟨bx, 1, none⟩ = some (.int .i64 cop)) ∧ Ns W (.slice sa ds.length scap) ds ∧ Ns W (.slice ua xs.length ucap) xs ∧ Ns W (.slice va ys.length vcap) ys ∧ Below w.heap.size w W) := fun W hb => by
                  obtain ⟨p1, p2, p3, p4, p5, p6⟩ := dUnhide K7 W hb
                  exact ⟨p1, p2, p3, p4, p6⟩
                clear K7
                obtain ⟨⟨k0, k1⟩, -⟩ := dUnhide K8 wr (Below.refl _ _)
                have hbd : Below wr.heap.size wr wr.drew := (Below.refl _ _).drew
                have he' := dUnhide HE
                have hh' := dUnhide HH
                have hes : enoughP ds cop xs xs := enough_self hh'
                have hrn : ¬ holdsP ds cop (lessL xs ys) := rest_not_holds he'
                have hlL := lessL_len xs ys
                have HL : Hid (allInt (lessL xs ys)) := fun d h => dUnhide HXA d (mem_lessL.1 h).1
                have HES := dHide hes
                have HRN := dHide hrn
                have HX0 := dHide he'.1.1
                have HY0 := dHide he'.2.1
                clear he' hh' hes hrn
                go_wp2_with fail
                go_region_held3 (fun W => W.cell? ⟨bx, 0, none⟩ = some (.slice sa ds.length scap) ∧ W.cell? ⟨bx, 1, none⟩ = some (.int .i64 cop)) (go_keep)
                  (first
                    | (go_at_call_of 16 (Value.slice ua xs.length ucap); have KA := dUnhide K8 _ hbd; refine (implHolds_any _ _ ds xs cop _ KA.2.1 KA.2.2.1 (dUnhide HDA) (dUnhide HXA) (by omega) (by omega) (by omega) (by omega)).mono ?_; rintro e wq ⟨hq, bq⟩; obtain rfl := hq.of_yes (dUnhide HH); have hbH := belowThen hbd bq; obtain ⟨⟨p0, p1⟩, -⟩ := dUnhide K8 _ hbH; clear bq KA hq)
                    | (go_at_call 14; have KA := dUnhide K8 _ hbH; refine (implEnough_any _ _ _ ds xs xs cop _ KA.2.1 KA.2.2.1 KA.2.2.1 (dUnhide HDA) (dUnhide HXA) (dUnhide HXA) (by omega) (by omega) (by omega) (by omega) (by omega)).mono ?_; rintro e wq ⟨hq, bq⟩; obtain rfl := hq.of_yes (dUnhide HES); have hbE := belowThen hbH bq; obtain ⟨⟨q0, q1⟩, -⟩ := dUnhide K8 _ hbE; clear bq KA hq)
                    | (go_at_call 20; have KA := dUnhide K8 _ hbE; refine (implRest_yes _ _ _ ds xs ys cop _ KA.2.1 KA.2.2.1 KA.2.2.2.1 (dUnhide HDA) (dUnhide HXA) (dUnhide HYA) (by omega) (by omega) (by omega) (by omega) (by omega) (dUnhide HX0) (dUnhide HY0)).mono ?_; rintro e wR ⟨⟨ro, rfl, orr⟩, bq⟩; have hbR := belowThen hbE bq; have OR := dHide orr.bs; obtain ⟨-, ra, rcap, rfl, -, -⟩ := orr; obtain ⟨⟨s0, s1⟩, -⟩ := dUnhide K8 _ hbR; clear bq KA)
                    | (go_at_call 16; have KA := dUnhide K8 _ hbR; refine (implHolds_any _ _ ds (lessL xs ys) cop _ KA.2.1 (dUnhide OR) (dUnhide HDA) (dUnhide HL) (by omega) (by omega) (by omega) (by omega)).mono ?_; rintro e wq ⟨hq, bq⟩; obtain rfl := hq.of_no (dUnhide HRN); have hbF := belowThen hbR bq; obtain ⟨⟨t0, t1⟩, -⟩ := dUnhide K8 _ hbF; clear bq KA hq))
                all_goals
                  obtain ⟨-, -, -, -, Be⟩ := dUnhide K8 _ hbF
                  go_wp2
                  go_ret
                  exact ⟨rfl, Be⟩
  · obtain rfl := h3.of_no he
    clear h3
    go_wp2_with fail
    by_cases hh : holdsP ds cop xs
    · skip
      go_cut [37] (fun sv wx => sv = .bool false ∧ Below w3.heap.size w3 wx)
      case first =>
        go_region_held3 (fun W => W.cell? ⟨bx, 0, none⟩ = some (.slice sa ds.length scap) ∧ W.cell? ⟨bx, 1, none⟩ = some (.int .i64 cop)) (go_keep)
          (first
            | (go_at_call 15; have KA := dUnhide K3 _ hbd; refine (specEnough_any _ _ _ ds xs ys cop _ KA.2.1 KA.2.2.1 KA.2.2.2.1 (by omega) (by omega)).mono ?_; rintro e wq ⟨hq, bq⟩; obtain rfl := hq.of_no he; have hbE := belowThen hbd bq; obtain ⟨⟨p0, p1⟩, -⟩ := dUnhide K3 _ hbE; clear bq KA hq)
            | (go_at_call 16; first | (have KA := dUnhide K3 _ hbS; refine (implHolds_any _ _ ds xs cop _ KA.2.1 KA.2.2.1 (dUnhide HDA) (dUnhide HXA) (by omega) (by omega) (by omega) (by omega)).mono ?_; rintro e wq ⟨hq, bq⟩; obtain rfl := hq.of_yes hh; have hbSI := belowThen hbS bq; obtain ⟨⟨p0, p1⟩, -⟩ := dUnhide K3 _ hbSI; clear bq KA hq) | (have KA := dUnhide K3 _ hbE; refine (implHolds_any _ _ ds xs cop _ KA.2.1 KA.2.2.1 (dUnhide HDA) (dUnhide HXA) (by omega) (by omega) (by omega) (by omega)).mono ?_; rintro e wq ⟨hq, bq⟩; obtain rfl := hq.of_yes hh; have hbI := belowThen hbE bq; obtain ⟨⟨p0, p1⟩, -⟩ := dUnhide K3 _ hbI; clear bq KA hq))
            | (go_at_call 17; first | (have KA := dUnhide K3 _ hbI; refine (specHolds_any _ _ ds xs cop _ KA.2.1 KA.2.2.1 (by omega)).mono ?_; rintro e wq ⟨hq, bq⟩; obtain rfl := hq.of_yes hh; have hbIS := belowThen hbI bq; obtain ⟨⟨p0, p1⟩, -⟩ := dUnhide K3 _ hbIS; clear bq KA hq) | (have KA := dUnhide K3 _ hbE; refine (specHolds_any _ _ ds xs cop _ KA.2.1 KA.2.2.1 (by omega)).mono ?_; rintro e wq ⟨hq, bq⟩; obtain rfl := hq.of_yes hh; have hbS := belowThen hbE bq; obtain ⟨⟨p0, p1⟩, -⟩ := dUnhide K3 _ hbS; clear bq KA hq)))
        all_goals
          go_wp2_with fail
          go_meet
          case rel => first | exact ⟨rfl, hbSI⟩ | exact ⟨rfl, hbIS⟩
      case rest =>
        obtain ⟨rfl, bc⟩ := hcut
        obtain ⟨-, -, -, -, Be⟩ := dUnhide K3 wc bc
        clear K3 k0 k1 he hh
        go_wp2
        go_ret
        exact ⟨rfl, Be⟩
    · skip
      go_cut [37] (fun sv wx => sv = .bool false ∧ Below w3.heap.size w3 wx)
      case first =>
        go_region_held3 (fun W => W.cell? ⟨bx, 0, none⟩ = some (.slice sa ds.length scap) ∧ W.cell? ⟨bx, 1, none⟩ = some (.int .i64 cop)) (go_keep)
          (first
            | (go_at_call 15; have KA := dUnhide K3 _ hbd; refine (specEnough_any _ _ _ ds xs ys cop _ KA.2.1 KA.2.2.1 KA.2.2.2.1 (by omega) (by omega)).mono ?_; rintro e wq ⟨hq, bq⟩; obtain rfl := hq.of_no he; have hbE := belowThen hbd bq; obtain ⟨⟨p0, p1⟩, -⟩ := dUnhide K3 _ hbE; clear bq KA hq)
            | (go_at_call 16; first | (have KA := dUnhide K3 _ hbS; refine (implHolds_any _ _ ds xs cop _ KA.2.1 KA.2.2.1 (dUnhide HDA) (dUnhide HXA) (by omega) (by omega) (by omega) (by omega)).mono ?_; rintro e wq ⟨hq, bq⟩; obtain rfl := hq.of_no hh; have hbSI := belowThen hbS bq; obtain ⟨⟨p0, p1⟩, -⟩ := dUnhide K3 _ hbSI; clear bq KA hq) | (have KA := dUnhide K3 _ hbE; refine (implHolds_any _ _ ds xs cop _ KA.2.1 KA.2.2.1 (dUnhide HDA) (dUnhide HXA) (by omega) (by omega) (by omega) (by omega)).mono ?_; rintro e wq ⟨hq, bq⟩; obtain rfl := hq.of_no hh; have hbI := belowThen hbE bq; obtain ⟨⟨p0, p1⟩, -⟩ := dUnhide K3 _ hbI; clear bq KA hq))
            | (go_at_call 17; first | (have KA := dUnhide K3 _ hbI; refine (specHolds_any _ _ ds xs cop _ KA.2.1 KA.2.2.1 (by omega)).mono ?_; rintro e wq ⟨hq, bq⟩; obtain rfl := hq.of_no hh; have hbIS := belowThen hbI bq; obtain ⟨⟨p0, p1⟩, -⟩ := dUnhide K3 _ hbIS; clear bq KA hq) | (have KA := dUnhide K3 _ hbE; refine (specHolds_any _ _ ds xs cop _ KA.2.1 KA.2.2.1 (by omega)).mono ?_; rintro e wq ⟨hq, bq⟩; obtain rfl := hq.of_no hh; have hbS := belowThen hbE bq; obtain ⟨⟨p0, p1⟩, -⟩ := dUnhide K3 _ hbS; clear bq KA hq)))
        all_goals
          go_wp2_with fail
          go_meet
          case rel => first | exact ⟨rfl, hbSI⟩ | exact ⟨rfl, hbIS⟩
      case rest =>
        obtain ⟨rfl, bc⟩ := hcut
        obtain ⟨-, -, -, -, Be⟩ := dUnhide K3 wc bc
        clear K3 k0 k1 he hh
        go_wp2
        go_ret
        exact ⟨rfl, Be⟩
end Go.Proofs.Ytgedaaknkhkegaa
