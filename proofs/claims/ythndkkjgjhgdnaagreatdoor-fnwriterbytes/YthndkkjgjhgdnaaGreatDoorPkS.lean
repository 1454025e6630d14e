/- Records as bytes: spec's WriterRead. -/
import Derived.Test.YthndkkjgjhgdnaaGreatDoorGk49
import Derived.Test.YthndkkjgjhgdnaaGreatDoorGk77
import Derived.Deep.RegionHeld3
import Derived.Deep.DeepCutAuto
namespace Go.Proofs.YthndkkjgjhgdnaaGreatDoor
open Go.ChangeShapes Go.WideShapes Go.ChangeAt Go.RowKit
set_option linter.unusedVariables false
set_option linter.unusedSimpArgs false
set_option maxRecDepth 100000

theorem WAp.drawn {bk base : Nat} {w w' : World} {v : Value} {ms : List Wd} (h : WAp w base v ms) (hd : Drawn bk w w') (hb : bk < base) : WAp w' base v ms := by
  obtain ⟨rs, h1, h2, h3, h4, h5⟩ := h
  exact ⟨rs, h1, ApR.kept elemW h2 hd.row (.inr fun e => by have := (ApR.touched elemW h2 e).1; omega), fun p hp => (h3 p hp).drawn17 hd hb, h4, h5⟩
set_option maxHeartbeats 16000000 in
theorem specWriterRead_any (cv v : Value) (c : List Int × Int) (bs : List UInt8) (w : World) (hcv : RdConfig cv c w) (hv : Bs w v bs) (hl : bs.length ≤ 1048576) :
    Calls Tryz.prog 18 #[cv, v] w fun e w' => (∃ (a : Option Addr) (cc : Nat), e = .returned (.tuple #[.agg #[.int .i64 (wtR c.1 c.2 bs).1.epoch, .slice a (wtR c.1 c.2 bs).1.words.length cc], .bool (wtR c.1 c.2 bs).2]) ∧ WAp w' w.heap.size (.slice a (wtR c.1 c.2 bs).1.words.length cc) (wtR c.1 c.2 bs).1.words) ∧ Below w.heap.size w w' := by
  have ba : ∀ (w : World) o, Below w.heap.size w (w.alloc o) := fun w o => (Below.refl _ _).alloc (Nat.le_refl _) o
  have hv0 := hv
  obtain ⟨-, a, cap, rfl, -⟩ := hv0
  obtain ⟨ds, cop⟩ := c
  have hvW := fun W (hb : Below w.heap.size w W) => hv.below hb
  have HCF := dHide fun W (hb : Below w.heap.size w W) => hcv.below hb
  obtain ⟨sc, rfl, hcn⟩ := hcv
  have HCN := dHide fun W (hb : Below w.heap.size w W) => hcn.below hb
  obtain ⟨-, ca, cc, rfl, -, -⟩ := hcn
  simp only at *
  have hRBall : ∀ b, w.heap.size ≤ b → bs = [] ∨ blockOf (.slice a bs.length cap) ≠ b := fun b hb => by
    by_cases h : bs = []
    · exact .inl h
    · exact .inr (by have := hv.lt h; omega)
  have hne := hRBall (w.heap.size + 2) (by omega)
  have i1 : (w.alloc (.cells #[.slice ca ds.length cc, .int .i64 cop] 26)).heap.size = w.heap.size + 1 := by simp
  have i2 : ((w.alloc (.cells #[.slice ca ds.length cc, .int .i64 cop] 26)).alloc (.cells #[.int .i64 0, .slice none 0 0] 40)).heap.size = w.heap.size + 2 := by simp
  have e3 : (((w.alloc (.cells #[.slice ca ds.length cc, .int .i64 cop] 26)).alloc (.cells #[.int .i64 0, .slice none 0 0] 40)).alloc (.cells #[.slice a bs.length cap, .int .i64 0, .bool true] 68)).heap.size = w.heap.size + 3 := by simp
  have B0 := belowThen (belowThen (ba w (.cells #[.slice ca ds.length cc, .int .i64 cop] 26)) (ba _ (.cells #[.int .i64 0, .slice none 0 0] 40))) (ba _ (.cells #[.slice a bs.length cap, .int .i64 0, .bool true] 68))
  have G0 := ((Bx.new w [.slice ca ds.length cc, .int .i64 cop] 26).below (ba _ (.cells #[.int .i64 0, .slice none 0 0] 40))).below (ba _ (.cells #[.slice a bs.length cap, .int .i64 0, .bool true] 68))
  have C0 : Cu (((w.alloc (.cells #[.slice ca ds.length cc, .int .i64 cop] 26)).alloc (.cells #[.int .i64 0, .slice none 0 0] 40)).alloc (.cells #[.slice a bs.length cap, .int .i64 0, .bool true] 68)) w.heap.size (w.heap.size + 2) (.slice a bs.length cap) 0 true := by
    have := BxZ.new (B := w.heap.size) ((w.alloc (.cells #[.slice ca ds.length cc, .int .i64 cop] 26)).alloc (.cells #[.int .i64 0, .slice none 0 0] 40)) [.slice a bs.length cap, .int .i64 0, .bool true] 68 (by omega)
    rw [i2] at this
    simpa [Cu] using this
  have R0 := (BxZ.new (B := w.heap.size) (w.alloc (.cells #[.slice ca ds.length cc, .int .i64 cop] 26)) [.int .i64 0, .slice none 0 0] 40 (by omega)).below (ba _ (.cells #[.slice a bs.length cap, .int .i64 0, .bool true] 68))
  rw [i1] at R0
  have V0 := hv.below B0
  have EY := wtR_yes ds cop bs
  have EN := wtR_no ds cop bs
  have ES : (wtRd ds cop bs).2.2 = true → sizWriter (wtRm ds cop bs) ≤ 1048576 := fun h => Nat.le_trans (wtRm_siz ds cop bs h) hl
  have EM : Hid (wtRm ds cop bs = ⟨(wtRa bs).1, (wtRd ds cop bs).1⟩) := rfl
  have CN := dHide fun q ok W (hc : Cu W w.heap.size (w.heap.size + 2) (.slice a bs.length cap) q ok) (hb : Bs W (.slice a bs.length cap) bs) => specNum17_any w.heap.size (w.heap.size + 2) _ bs q ok W hc hb hl
  have CL := dHide fun q ok W (hc : Cu W w.heap.size (w.heap.size + 2) (.slice a bs.length cap) q ok) (hb : Bs W (.slice a bs.length cap) bs) (hq : q ≤ bs.length) => specNums17_any w.heap.size (w.heap.size + 2) _ bs q ok W hc hb hl hq hne
  have CT := dHide fun q ok W (hc : Cu W w.heap.size (w.heap.size + 2) (.slice a bs.length cap) q ok) (hb : Bs W (.slice a bs.length cap) bs) => specText17_any w.heap.size (w.heap.size + 2) _ bs q ok W hc hb hl
  have la : (wtRa bs).2.1 ≤ bs.length := wtRa_le bs
  have lc : (wtRc bs).2.1 ≤ bs.length := wtRc_le bs
  have EA : Hid (rdN bs 0 true = wtRa bs) := rfl
  have EC : Hid (rdN bs (wtRa bs).2.1 (wtRa bs).2.2 = wtRc bs) := rfl
  have ED : Hid (rdWds ds cop bs (wtRc bs).1.toNat (wtRc bs).2.1 (wtRc bs).2.2 = wtRd ds cop bs) := rfl
  have HN : Hid (0 ≤ (wtRc bs).1 ∧ (wtRc bs).1 ≤ 9223372036854775807) := rdN_bd _ la
  generalize wtR ds cop bs = RR at *
  generalize wtRm ds cop bs = MM at *
  generalize wtRd ds cop bs = MD at *
  generalize wtRc bs = MC at *
  generalize wtRa bs = MA at *
  obtain ⟨y0, q1, ok1⟩ := MA
  obtain ⟨n0, q3, ok3⟩ := MC
  simp only at la lc EC ED EY EN ES EM HN
  have EYh := dHide EY
  have ENh := dHide EN
  have ESh := dHide ES
  clear EY EN ES hv
  go_enter Tryz.func18, Tryz.ntmps18
  go_wp2_with fail
  generalize ((w.alloc (.cells #[.slice ca ds.length cc, .int .i64 cop] 26)).alloc (.cells #[.int .i64 0, .slice none 0 0] 40)).alloc (.cells #[.slice a bs.length cap, .int .i64 0, .bool true] 68) = w0 at *
  have C1 := dUnhide CN 0 true w0 C0 V0
  rw [dUnhide EA] at C1
  refine C1.mono ?_
  rintro e w1 ⟨rfl, c1, d1⟩
  have hs1 := d1.size
  have V1 := V0.drawn d1 hne
  have B1 := d1.below B0 (by omega) (by omega)
  have R1 := R0.drawn d1 (by omega)
  have G1 := G0.drawn d1 (by omega)
  have bX := ba w1 (.cells #[.int .i64 y0, .slice none 0 0] 40)
  have X2 := BxZ.new (B := w.heap.size) w1 [.int .i64 y0, .slice none 0 0] 40 (by omega)
  have V2 := V1.below bX
  have B2 := belowThen B1 bX
  have R2 := R1.below bX
  have G2 := G1.below bX
  have C2 := dUnhide CN q1 ok1 _ (BxZ.below c1 bX) V2
  rw [dUnhide EC] at C2
  have hs2 : (w1.alloc (.cells #[.int .i64 y0, .slice none 0 0] 40)).heap.size = w1.heap.size + 1 := by simp
  clear C1 C0 V0 B0 R0 G0 c1 d1 V1 B1 R1 G1 bX EA i1 i2
  go_wp2_with fail
  generalize w1.alloc (.cells #[.int .i64 y0, .slice none 0 0] 40) = w2 at *
  refine C2.mono ?_
  rintro e w5 ⟨rfl, c5, d5⟩
  have hs5 := d5.size
  have X5 := X2.drawn d5 (by omega)
  have B5 := d5.below B2 (by omega) (by omega)
  have R5 := R2.drawn d5 (by omega)
  have G5 := G2.drawn d5 (by omega)
  obtain ⟨hn0, hn1⟩ := dUnhide HN
  obtain ⟨n, rfl⟩ := Int.eq_ofNat_of_zero_le hn0
  rw [Int.toNat_natCast] at ED
  have HX5 := dHide X5
  have HC5 := dHide c5
  have HR5 := dHide R5
  have HB5 := dHide B5
  have HG5 := dHide G5
  generalize w1.heap.size = rb at *
  clear C2 X2 V2 B2 R2 G2 X5 c5 R5 B5 G5 d5 HN
  go_wp2
  go_loopw [9] (fun xv wr => ∃ (k : Nat) (es : List Wd) (p : Nat) (okb : Bool) (ua : Option Addr) (uc : Nat), xv = .int .i64 (k : Int) ∧ es.length = k ∧ k ≤ n ∧ k ≤ bs.length + 1 ∧ (okb = true → k ≤ p) ∧ p ≤ bs.length ∧ Hid (MD = (es ++ (rdWds ds cop bs (n - k) p okb).1, (rdWds ds cop bs (n - k) p okb).2)) ∧ Hid (Cu wr w.heap.size (w.heap.size + 2) (.slice a bs.length cap) p okb) ∧ Hid (BxZ wr w.heap.size rb [.int .i64 y0, .slice ua es.length uc]) ∧ Hid (WAp wr (rb + 1) (.slice ua es.length uc) es) ∧ Hid (BxZ wr w.heap.size (w.heap.size + 1) [.int .i64 0, .slice none 0 0]) ∧ Hid (Below w.heap.size w wr) ∧ Hid (Bx wr w.heap.size [.slice ca ds.length cc, .int .i64 cop]) ∧ rb + 1 ≤ wr.heap.size) (fun xv _ => bs.length + 2 - (intOf xv).toNat)
  case atStart => exact ⟨0, [], q3, ok3, none, 0, rfl, rfl, Nat.zero_le _, Nat.zero_le _, fun _ => Nat.zero_le _, lc, by simpa [Hid] using (dUnhide ED).symm, HC5, HX5, WAp.nil _ _ _, HR5, HB5, HG5, by omega⟩
  case round =>
    clear HC5 HX5 HR5 HB5 HG5 ED
    obtain ⟨k, es, p, okb, ua, uc, rfl, hel, hkn, hkb, hkp, hp, HK, HC, HX, HA, HR, HB, HG, hsz⟩ := hrel
    have p2 := ((dUnhide HC).2 2 _ rfl).1
    have hszb := (dUnhide HB).size
    have HEL := dHide hel
    clear hel
    by_cases hlt : (k : Int) < (n : Int)
    · cases okb
      · have eD : MD = (es, p, false) := by
          have := dUnhide HK
          rw [rdWds_off] at this
          simpa using this
        have eMM : MM = ⟨y0, es⟩ := by rw [dUnhide EM, eD]
        have EY := dUnhide EYh
        have EN := dUnhide ENh
        have ES := dUnhide ESh
        clear EYh ENh ESh
        rw [eD] at EY EN ES
        simp only at EY EN ES
        replace eD := dHide eD
        replace eMM := dHide eMM
        replace EY := dHide EY
        replace EN := dHide EN
        replace ES := dHide ES
        have C6 := specEnd17_any w.heap.size (w.heap.size + 2) _ bs p false wr wr (dUnhide HC) (hvW wr (dUnhide HB))
        clear HK HC CN CL CT HCN hvW hRBall
        by_cases hok : endB bs p false = true
        · rw [hok] at C6
          have hfalse : false = true := by
            unfold endB at hok
            cases false <;> simp_all
          replace hfalse := dHide hfalse
          have hsz6 := (dUnhide ES) (dUnhide hfalse)
          have EYH : Hid (endB bs p false = true ∧ wrP ds cop ⟨y0, es⟩ → RR = (⟨y0, es⟩, true)) := by rw [← dUnhide eMM]; exact dUnhide EY
          have ENH : Hid (¬ (endB bs p false = true ∧ wrP ds cop ⟨y0, es⟩) → RR = (⟨0, []⟩, false)) := by rw [← dUnhide eMM]; exact dUnhide EN
          rw [dUnhide eMM] at hsz6
          clear EY EN ES
          replace hsz6 := dHide hsz6
          go_wp2_with fail
          refine C6.mono ?_
          rintro e w6 ⟨rfl, b6⟩
          have X6 := (dUnhide HX).below b6
          have G6 := (dUnhide HG).below b6
          have A6 := dHide (WAp.below (dUnhide HA) b6)
          have R6 := dHide ((dUnhide HR).below b6)
          have B6 := dHide (belowThen (dUnhide HB) b6)
          have C7 := dHide (specWriterOk_any (.agg #[.slice ca ds.length cc, .int .i64 cop]) (.agg #[.int .i64 y0, .slice ua es.length uc]) (ds, cop) ⟨y0, es⟩ w6 ((dUnhide HCF) w6 (dUnhide B6)) ⟨_, rfl, (WAp.ow (dUnhide A6)).rd⟩ (Nat.le_trans (dUnhide hsz6) (by omega)))
          have z0 := (X6.2 0 _ rfl).1
          have z1 := (X6.2 1 _ rfl).1
          have g0 := G6 0 _ rfl
          have g1 := G6 1 _ rfl
          have HX6 := dHide X6
          clear C6 HX HA HR HB HG X6 G6 b6
          go_wp2_with fail
          refine (dUnhide C7).mono ?_
          rintro e w7 ⟨hr, b7⟩
          have X7 := (dUnhide HX6).below b7
          have A9 := WAp.below (dUnhide A6) b7
          have R9 := (dUnhide R6).below b7
          have B9 := belowThen (dUnhide B6) b7
          clear z0 z1 g0 g1 HX6 A6 R6 B6 C7 b7
          by_cases hp' : wrP ds cop ⟨y0, es⟩
          · obtain rfl := hr.of_yes hp'
            have eR := dUnhide EYH ⟨hok, hp'⟩
            have x0 := (X7.2 0 _ rfl).1
            have x1 := (X7.2 1 _ rfl).1
            clear hr EYH ENH X7
            obtain ⟨z0, f0⟩ := R9.2 0 _ rfl
            obtain ⟨z1, f1⟩ := R9.2 1 _ rfl
            have FIN : Hid (BxZ ((w7.setCell ⟨w.heap.size + 1, 0, none⟩ (.int .i64 y0)).setCell ⟨w.heap.size + 1, 1, none⟩ (.slice ua es.length uc)) w.heap.size (w.heap.size + 1) [.int .i64 y0, .slice ua es.length uc] ∧ Below w.heap.size w ((w7.setCell ⟨w.heap.size + 1, 0, none⟩ (.int .i64 y0)).setCell ⟨w.heap.size + 1, 1, none⟩ (.slice ua es.length uc)) ∧ WAp ((w7.setCell ⟨w.heap.size + 1, 0, none⟩ (.int .i64 y0)).setCell ⟨w.heap.size + 1, 1, none⟩ (.slice ua es.length uc)) w.heap.size (.slice ua es.length uc) es) := And.intro ((R9.put 0 (.int .i64 y0)).put 1 (.slice ua es.length uc)) (And.intro (Below.setCell (p := ⟨w.heap.size + 1, 1, none⟩) (Below.setCell (p := ⟨w.heap.size + 1, 0, none⟩) B9 (by simp only; omega) (.int .i64 y0)) (by simp only; omega) (.slice ua es.length uc)) (WAp.mono (WAp.far (WAp.far A9 (b := w.heap.size + 1) (o := 0) (by omega) (.int .i64 y0)) (b := w.heap.size + 1) (o := 1) (by omega) (.slice ua es.length uc)) (show w.heap.size ≤ rb + 1 by omega)))
            clear R9 B9 A9
            subst eR
            go_wp2
            have fin := dUnhide FIN
            generalize ((w7.setCell ⟨w.heap.size + 1, 0, none⟩ (.int .i64 y0)).setCell ⟨w.heap.size + 1, 1, none⟩ (.slice ua es.length uc)) = V at *
            obtain ⟨r, b, ap⟩ := fin
            have q0 := (r.2 0 _ rfl).1
            have q1 := (r.2 1 _ rfl).1
            exact bodyPost_ret (v := .tuple #[.agg #[.int .i64 y0, .slice ua es.length uc], .bool true]) (by simp [results, Tryz.results18, go_sem, q0, q1]) rfl ⟨⟨_, _, rfl, ap⟩, b⟩
          · obtain rfl := hr.of_no hp'
            have eR := dUnhide ENH (fun h => hp' h.2)
            clear hr EYH ENH X7
            obtain ⟨z0, f0⟩ := R9.2 0 _ rfl
            obtain ⟨z1, f1⟩ := R9.2 1 _ rfl
            have FIN : Hid (BxZ ((w7.setCell ⟨w.heap.size + 1, 0, none⟩ (.int .i64 0)).setCell ⟨w.heap.size + 1, 1, none⟩ (.slice none 0 0)) w.heap.size (w.heap.size + 1) [.int .i64 0, .slice none 0 0] ∧ Below w.heap.size w ((w7.setCell ⟨w.heap.size + 1, 0, none⟩ (.int .i64 0)).setCell ⟨w.heap.size + 1, 1, none⟩ (.slice none 0 0)) ∧ WAp ((w7.setCell ⟨w.heap.size + 1, 0, none⟩ (.int .i64 0)).setCell ⟨w.heap.size + 1, 1, none⟩ (.slice none 0 0)) w.heap.size (.slice ua es.length uc) es) := And.intro ((R9.put 0 (.int .i64 0)).put 1 (.slice none 0 0)) (And.intro (Below.setCell (p := ⟨w.heap.size + 1, 1, none⟩) (Below.setCell (p := ⟨w.heap.size + 1, 0, none⟩) B9 (by simp only; omega) (.int .i64 0)) (by simp only; omega) (.slice none 0 0)) (WAp.mono (WAp.far (WAp.far A9 (b := w.heap.size + 1) (o := 0) (by omega) (.int .i64 0)) (b := w.heap.size + 1) (o := 1) (by omega) (.slice none 0 0)) (show w.heap.size ≤ rb + 1 by omega)))
            clear R9 B9 A9
            subst eR
            go_wp2
            have fin := dUnhide FIN
            generalize ((w7.setCell ⟨w.heap.size + 1, 0, none⟩ (.int .i64 0)).setCell ⟨w.heap.size + 1, 1, none⟩ (.slice none 0 0)) = V at *
            obtain ⟨r, b, ap⟩ := fin
            have q0 := (r.2 0 _ rfl).1
            have q1 := (r.2 1 _ rfl).1
            exact bodyPost_ret (v := .tuple #[.agg #[.int .i64 0, .slice none 0 0], .bool false]) (by simp [results, Tryz.results18, go_sem, q0, q1]) rfl ⟨⟨_, _, rfl, WAp.nil _ _ _⟩, b⟩
        · rw [Bool.not_eq_true] at hok
          have eR := (dUnhide EN) (fun h => by rw [hok] at h; exact absurd h.1 (by simp))
          rw [hok] at C6
          clear EY EN ES
          go_wp2_with fail
          refine C6.mono ?_
          rintro e w7 ⟨rfl, b7⟩
          have A9 := WAp.below (dUnhide HA) b7
          have R9 := (dUnhide HR).below b7
          have B9 := belowThen (dUnhide HB) b7
          clear C6 HX HA HR HB HG b7
          obtain ⟨z0, f0⟩ := R9.2 0 _ rfl
          obtain ⟨z1, f1⟩ := R9.2 1 _ rfl
          have FIN : Hid (BxZ ((w7.setCell ⟨w.heap.size + 1, 0, none⟩ (.int .i64 0)).setCell ⟨w.heap.size + 1, 1, none⟩ (.slice none 0 0)) w.heap.size (w.heap.size + 1) [.int .i64 0, .slice none 0 0] ∧ Below w.heap.size w ((w7.setCell ⟨w.heap.size + 1, 0, none⟩ (.int .i64 0)).setCell ⟨w.heap.size + 1, 1, none⟩ (.slice none 0 0)) ∧ WAp ((w7.setCell ⟨w.heap.size + 1, 0, none⟩ (.int .i64 0)).setCell ⟨w.heap.size + 1, 1, none⟩ (.slice none 0 0)) w.heap.size (.slice ua es.length uc) es) := And.intro ((R9.put 0 (.int .i64 0)).put 1 (.slice none 0 0)) (And.intro (Below.setCell (p := ⟨w.heap.size + 1, 1, none⟩) (Below.setCell (p := ⟨w.heap.size + 1, 0, none⟩) B9 (by simp only; omega) (.int .i64 0)) (by simp only; omega) (.slice none 0 0)) (WAp.mono (WAp.far (WAp.far A9 (b := w.heap.size + 1) (o := 0) (by omega) (.int .i64 0)) (b := w.heap.size + 1) (o := 1) (by omega) (.slice none 0 0)) (show w.heap.size ≤ rb + 1 by omega)))
          clear R9 B9 A9
          subst eR
          go_wp2
          have fin := dUnhide FIN
          generalize ((w7.setCell ⟨w.heap.size + 1, 0, none⟩ (.int .i64 0)).setCell ⟨w.heap.size + 1, 1, none⟩ (.slice none 0 0)) = V at *
          obtain ⟨r, b, ap⟩ := fin
          have q0 := (r.2 0 _ rfl).1
          have q1 := (r.2 1 _ rfl).1
          exact bodyPost_ret (v := .tuple #[.agg #[.int .i64 0, .slice none 0 0], .bool false]) (by simp [results, Tryz.results18, go_sem, q0, q1]) rfl ⟨⟨_, _, rfl, WAp.nil _ _ _⟩, b⟩
      · have hkp2 : k ≤ p := hkp rfl
        have HS : Hid (p ≤ (rdWd ds cop bs p true).2.1 ∧ (rdWd ds cop bs p true).2.1 ≤ bs.length ∧ ((rdWd ds cop bs p true).2.2 = true → p + 1 ≤ (rdWd ds cop bs p true).2.1)) := by
          obtain ⟨a1, a2, a3, -⟩ := rdWd_go ds cop bs p true hp
          exact ⟨a1, a2, fun h => by have := a3 h; omega⟩
        obtain ⟨j, hj⟩ : ∃ j, n - k = j + 1 := ⟨n - k - 1, by omega⟩
        have hj2 : n - (k + 1) = j := by omega
        have HK2 : Hid (MD = (es ++ [(rdWd ds cop bs p true).1] ++ (rdWds ds cop bs j (rdWd ds cop bs p true).2.1 (rdWd ds cop bs p true).2.2).1, (rdWds ds cop bs j (rdWd ds cop bs p true).2.1 (rdWd ds cop bs p true).2.2).2)) := by
          have := dUnhide HK
          rw [hj, rdWds_succ] at this
          rw [Hid, this]
          simp
        obtain ⟨rs, s1, s2, s3, s4, s5⟩ := dUnhide HA
        have HST := dHide fun (W : World) (hd : Drawn (w.heap.size + 2) wr W) =>
          (⟨(dUnhide HX).drawn hd (by omega), ApR.kept elemW s2 hd.row (.inr fun e => by have := (ApR.touched elemW s2 e).1; omega), fun p hp => (s3 p hp).drawn17 hd (by omega), (dUnhide HR).drawn hd (by omega), (dUnhide HG).drawn hd (by omega), hd.below (dUnhide HB) hszb (by omega)⟩ :
            BxZ W w.heap.size rb [.int .i64 y0, .slice ua es.length uc] ∧ ApR 82 3 wdCl W (rb + 1) (.slice ua es.length uc) rs ∧ (∀ p ∈ rs, OwnN W (rb + 1) (Sv Wd.acks p) p.m.acks) ∧ BxZ W w.heap.size (w.heap.size + 1) [.int .i64 0, .slice none 0 0] ∧ Bx W w.heap.size [.slice ca ds.length cc, .int .i64 cop] ∧ Below w.heap.size w W)
        have HT2 : Hid (∀ b, b ≤ rb → touch (.slice ua es.length uc) ≠ some b) := fun b hb e => by have := (ApR.touched elemW s2 e).1; omega
        have HT4 : Hid (∀ q, touch (.slice ua es.length uc) = some q → rb + 1 ≤ q) := fun q hq => (ApR.touched elemW s2 hq).1
        have HRL : Hid (rs.length = k) := by rw [Hid, ← dUnhide HEL, ← s1, List.length_map]
        have RS1 := dHide s1
        have RS2 := dHide s2
        have RS3 := dHide s3
        have RS4 := dHide s4
        have RS5 := dHide s5
        have HVW := dHide hvW
        have C1 := dHide (dUnhide CT p true wr (dUnhide HC) (hvW wr (dUnhide HB)))
        obtain ⟨BB, hB1, hB2, EE⟩ := rdWd_eq ds cop bs p true
        have HQ := dHide (rdT_go (bs := bs) true hp).2.1
        have hLL : (rdL bs (rdT bs p true).2.1 (rdT bs p true).2.2).1.length ≤ 1000000000 := by
          have := rdL_len bs _ (rdT bs p true).2.2 (rdT_go (bs := bs) true hp).2.1
          omega
        have E2 := dHide fun W hc hb hq => dUnhide CL (rdT bs p true).2.1 (rdT bs p true).2.2 W hc hb hq
        have E3 : Hid (∀ W v, Ns W (.slice ca ds.length cc) ds → Ns W v (rdL bs (rdT bs p true).2.1 (rdT bs p true).2.2).1 → Calls Tryz.prog 44 #[.agg #[.slice ca ds.length cc, .int .i64 cop], v] W fun e w' => e = .returned (.bool BB) ∧ Below W.heap.size W w') := fun W v h1 h2 => (specHolds_any _ v ds _ cop W h1 h2 hLL).mono fun e w' h => ⟨by
          by_cases hh : holdsP ds cop (rdL bs (rdT bs p true).2.1 (rdT bs p true).2.2).1
          · rw [hB1 hh]; exact h.1.of_yes hh
          · rw [hB2 hh]; exact h.1.of_no hh, h.2⟩
        replace EE := dHide EE
        clear hB1 hB2 hLL
        generalize rdWd ds cop bs p true = RE at *
        generalize (rdL bs (rdT bs p true).2.1 (rdT bs p true).2.2) = N2 at *
        generalize (rdT bs p true) = N1 at *
        have eE := dUnhide EE
        subst eE
        obtain ⟨td, p1, o1⟩ := N1
        obtain ⟨ns, q3', o2⟩ := N2
        simp only at HS HK2 C1 E2 E3 HQ
        generalize (ByteArray.mk td.toArray) = DD at *
        clear CN CL CT EE HX HA HR HC HG HK hvW s1 s2 s3 s4 s5
        go_wp2_with fail
        refine (dUnhide C1).mono ?_
        rintro e w3 ⟨rfl, c3, d3⟩
        have b3 : Below w3.heap.size w3 (w3.alloc (.cells #[.string DD, .slice none 0 0, .bool false] 82)) := ba w3 _
        have D3 := dHide (d3.trans (Drawn.of_below b3))
        have c3' := BxZ.below c3 b3
        have Z3 := BxZ.new (B := wr.heap.size) w3 [.string DD, .slice none 0 0, .bool false] 82 d3.size
        have hs3 : (w3.alloc (.cells #[.string DD, .slice none 0 0, .bool false] 82)).heap.size = w3.heap.size + 1 := by simp
        have C2 := dHide (dUnhide E2 _ c3' (dUnhide HVW _ (dUnhide HST _ (dUnhide D3)).2.2.2.2.2) (dUnhide HQ))
        have hsd3 := d3.size
        clear C1 E2 c3 c3' d3 b3 p2 HQ
        go_wp2_with fail
        generalize w3.alloc (.cells #[.string DD, .slice none 0 0, .bool false] 82) = w4 at *
        refine (dUnhide C2).mono ?_
        rintro e w5 ⟨⟨u, rfl, O5⟩, c5, d5⟩
        obtain ⟨-, un, nc, rfl, -⟩ := O5.bs
        have hsd5 := d5.size
        have Z5 := Z3.drawn d5 (by omega)
        obtain ⟨g1, f1⟩ := Z5.2 1 _ rfl
        have D6 := dHide (Drawn.setNew ((dUnhide D3).trans d5) (b := w3.heap.size) hsd3 1 (.slice un ns.length nc))
        have Z6 := Z5.put 1 (.slice un ns.length nc)
        have c6 := BxZ.far (b' := w3.heap.size) (o := 1) c5 (by omega) (.slice un ns.length nc)
        have O6 := (O5.far (b := w3.heap.size) (o := 1) (by omega) (.slice un ns.length nc)).mono (show wr.heap.size ≤ w4.heap.size by omega)
        have O6b := O5.far (b := w3.heap.size) (o := 1) (by omega) (.slice un ns.length nc)
        obtain ⟨x6, a6, n6, r6, gg6, bb6⟩ := dUnhide HST _ (dUnhide D6)
        have C3 := dHide (dUnhide E3 _ (.slice un ns.length nc) (dUnhide HCN _ bb6) O6.bs)
        have k0 := gg6 0 _ rfl
        have k1 := gg6 1 _ rfl
        have z1 := (Z6.2 1 _ rfl).1
        have hs6 : (w5.setCell ⟨w3.heap.size, 1, none⟩ (.slice un ns.length nc)).heap.size = w5.heap.size := by simp
        clear C2 E3 c5 d5 Z3 Z5 D3 O5 O6 x6 a6 n6 r6 gg6 bb6 HCN
        go_wp2_with fail
        generalize w5.setCell ⟨w3.heap.size, 1, none⟩ (.slice un ns.length nc) = w6 at *
        refine (dUnhide C3).mono ?_
        rintro e w7 ⟨rfl, b7⟩
        have hsd7 := b7.size
        have Z7 := Z6.below b7
        obtain ⟨g2, f2⟩ := Z7.2 2 _ rfl
        have D9 := dHide (Drawn.setNew ((dUnhide D6).trans (Drawn.of_below b7)) (b := w3.heap.size) hsd3 2 (.bool BB))
        have Z9 := Z7.put 2 (.bool BB)
        have c9 := BxZ.far (b' := w3.heap.size) (o := 2) (BxZ.below c6 b7) (by omega) (.bool BB)
        have O9 := ((O6b.below b7).far (b := w3.heap.size) (o := 2) (by omega) (.bool BB)).mono (show wr.heap.size ≤ w4.heap.size by omega)
        obtain ⟨x9, a9, n9, r9, g9, bb9⟩ := dUnhide HST _ (dUnhide D9)
        have l0 := (x9.2 1 _ rfl).1
        have m0 := (Z9.2 0 _ rfl).1
        have m1 := (Z9.2 1 _ rfl).1
        have m2 := (Z9.2 2 _ rfl).1
        have hs9 : (w7.setCell ⟨w3.heap.size, 2, none⟩ (.bool BB)).heap.size = w7.heap.size := by simp
        have RO : Hid (Rw 3 wdCl ((w7.setCell ⟨w3.heap.size, 2, none⟩ (.bool BB)).alloc (.cells #[.string DD, .slice un ns.length nc, .bool BB] 82)) (.slice (some ⟨w7.heap.size, 0, none⟩) 1 1) [(⟨un, nc, ⟨DD, ns, BB⟩⟩ : Nst Wd)]) := by
          have := rwW_one (w7.setCell ⟨w3.heap.size, 2, none⟩ (.bool BB)) (⟨un, nc, ⟨DD, ns, BB⟩⟩ : Nst Wd) 82 1 (by omega)
          rw [hs9] at this
          exact this
        have b9 := ba (w7.setCell ⟨w3.heap.size, 2, none⟩ (.bool BB)) (.cells #[.string DD, .slice un ns.length nc, .bool BB] 82)
        have HA9 := dHide (ApR.below a9 b9)
        have hN9 := dHide fun p hp => (n9 p hp).below b9
        have O9' := dHide (O9.below b9)
        have HX9 := dHide (x9.below b9)
        have HC9 := dHide (BxZ.below c9 b9)
        have HR9 := dHide (r9.below b9)
        have HG9 := dHide (g9.below b9)
        have HB9 := dHide (belowThen bb9 b9)
        have hsA : ((w7.setCell ⟨w3.heap.size, 2, none⟩ (.bool BB)).alloc (.cells #[.string DD, .slice un ns.length nc, .bool BB] 82)).heap.size = w7.heap.size + 1 := by simp
        clear C3 c6 c9 D6 D9 HST O6b O9 Z6 Z7 Z9 a9 n9 x9 r9 g9 bb9 b7
        go_wp2_with (at_builtin; refine wp_apR elemW rfl _ _ rfl (rb + 1) (.slice ua es.length uc) rs rfl (dUnhide HA9) _ [(⟨un, nc, ⟨DD, ns, BB⟩⟩ : Nst Wd)] rfl (dUnhide RO) ?c1 ?c2 ?c3 ?_)
        case c1 => rw [dUnhide HRL]; simp; omega
        case c2 => rw [dUnhide HRL]; simp; omega
        case c3 => simp; omega
        intro v' w10 A10 G10 T10
        have NP := WAp.push (p := (⟨un, nc, ⟨DD, ns, BB⟩⟩ : Nst Wd)) (dUnhide RS1) (dUnhide RS2) (dUnhide RS3) (dUnhide RS4) (dUnhide RS5) (dUnhide hN9) (by rw [hsA]; omega) (by omega) (dUnhide O9') A10 G10 (by rw [hsA]; exact T10)
        obtain ⟨va, vc, rfl⟩ := WAp.slice NP
        have hgs := G10.size
        have hs10 : rb + 1 ≤ w10.heap.size := by omega
        have U1 := dUnhide HT2 (w.heap.size + 2) (by omega)
        have U2 := dUnhide HT2 rb (Nat.le_refl _)
        have U3 := dUnhide HT2 (w.heap.size + 1) (by omega)
        have U4 := dUnhide HT2 w.heap.size (by omega)
        have X11 := dHide (((dUnhide HX9).grown G10 U2).put 1 (.slice va (es ++ [(⟨DD, ns, BB⟩ : Wd)]).length vc))
        obtain ⟨l10, f10⟩ := ((dUnhide HX9).grown G10 U2).2 1 _ rfl
        have C11 := dHide (((dUnhide HC9).grown G10 U1).far (b' := rb) (o := 1) (by omega) (.slice va (es ++ [(⟨DD, ns, BB⟩ : Wd)]).length vc))
        have A11 := dHide (WAp.far NP (b := rb) (o := 1) (by omega) (.slice va (es ++ [(⟨DD, ns, BB⟩ : Wd)]).length vc))
        have R11 := dHide (((dUnhide HR9).grown G10 U3).far (b' := rb) (o := 1) (by omega) (.slice va (es ++ [(⟨DD, ns, BB⟩ : Wd)]).length vc))
        have G11 : Hid (Bx (w10.setCell ⟨rb, 1, none⟩ (.slice va (es ++ [(⟨DD, ns, BB⟩ : Wd)]).length vc)) w.heap.size [.slice ca ds.length cc, .int .i64 cop]) := fun i u hu => set_other (((dUnhide HG9).grown G10 U4) i u hu) (.inl (by omega))
        have B11 := dHide (Below.setCell (p := ⟨rb, 1, none⟩) ((dUnhide HB9).grown G10 (by rw [hsA]; omega) (fun q hq => by have := dUnhide HT4 q hq; omega)) (by simp only; omega) (.slice va (es ++ [(⟨DD, ns, BB⟩ : Wd)]).length vc))
        have hs11 : (w10.setCell ⟨rb, 1, none⟩ (.slice va (es ++ [(⟨DD, ns, BB⟩ : Wd)]).length vc)).heap.size = w10.heap.size := by simp
        have HLL : Hid ((es ++ [(⟨DD, ns, BB⟩ : Wd)]).length = k + 1) := by rw [Hid, List.length_append, dUnhide HEL]; rfl
        clear HX9 HC9 HR9 HG9 HB9 HA9 hN9 O9' RO NP A10 G10 T10 b9 l0 m0 m1 m2 U1 U2 U3 U4 RS1 RS2 RS3 RS4 RS5 HT4
        generalize hLQ : (es ++ [(⟨DD, ns, BB⟩ : Wd)]) = ESS at *
        go_wp2
        go_roundw
        case rel => exact ⟨k + 1, ESS, q3', o2, va, vc, by go_num, dUnhide HLL, by omega, by omega, fun h => by have := (dUnhide HS).2.2 h; omega, (dUnhide HS).2.1, by rw [hj2]; exact dUnhide HK2, C11, X11, A11, R11, B11, G11, by rw [hs11]; exact hs10⟩
        case measure => simp [intOf]; omega
    · have hkn' : k = n := by omega
      have eD : MD = (es, p, okb) := by
        have := dUnhide HK
        rw [hkn', Nat.sub_self, rdWds_zero] at this
        simpa using this
      have eMM : MM = ⟨y0, es⟩ := by rw [dUnhide EM, eD]
      have EY := dUnhide EYh
      have EN := dUnhide ENh
      have ES := dUnhide ESh
      replace hkn' := dHide hkn'
      clear EYh ENh ESh
      rw [eD] at EY EN ES
      simp only at EY EN ES
      replace eD := dHide eD
      replace eMM := dHide eMM
      replace EY := dHide EY
      replace EN := dHide EN
      replace ES := dHide ES
      have C6 := specEnd17_any w.heap.size (w.heap.size + 2) _ bs p okb wr wr (dUnhide HC) (hvW wr (dUnhide HB))
      clear HK HC CN CL CT HCN hvW hRBall
      by_cases hok : endB bs p okb = true
      · rw [hok] at C6
        have hokb : okb = true := by
          unfold endB at hok
          cases okb <;> simp_all
        replace hokb := dHide hokb
        have hsz6 := (dUnhide ES) (dUnhide hokb)
        have EYH : Hid (endB bs p okb = true ∧ wrP ds cop ⟨y0, es⟩ → RR = (⟨y0, es⟩, true)) := by rw [← dUnhide eMM]; exact dUnhide EY
        have ENH : Hid (¬ (endB bs p okb = true ∧ wrP ds cop ⟨y0, es⟩) → RR = (⟨0, []⟩, false)) := by rw [← dUnhide eMM]; exact dUnhide EN
        rw [dUnhide eMM] at hsz6
        clear EY EN ES
        replace hsz6 := dHide hsz6
        go_wp2_with fail
        refine C6.mono ?_
        rintro e w6 ⟨rfl, b6⟩
        have X6 := (dUnhide HX).below b6
        have G6 := (dUnhide HG).below b6
        have A6 := dHide (WAp.below (dUnhide HA) b6)
        have R6 := dHide ((dUnhide HR).below b6)
        have B6 := dHide (belowThen (dUnhide HB) b6)
        have C7 := dHide (specWriterOk_any (.agg #[.slice ca ds.length cc, .int .i64 cop]) (.agg #[.int .i64 y0, .slice ua es.length uc]) (ds, cop) ⟨y0, es⟩ w6 ((dUnhide HCF) w6 (dUnhide B6)) ⟨_, rfl, (WAp.ow (dUnhide A6)).rd⟩ (Nat.le_trans (dUnhide hsz6) (by omega)))
        have z0 := (X6.2 0 _ rfl).1
        have z1 := (X6.2 1 _ rfl).1
        have g0 := G6 0 _ rfl
        have g1 := G6 1 _ rfl
        have HX6 := dHide X6
        clear C6 HX HA HR HB HG X6 G6 b6
        go_wp2_with fail
        refine (dUnhide C7).mono ?_
        rintro e w7 ⟨hr, b7⟩
        have X7 := (dUnhide HX6).below b7
        have A9 := WAp.below (dUnhide A6) b7
        have R9 := (dUnhide R6).below b7
        have B9 := belowThen (dUnhide B6) b7
        clear z0 z1 g0 g1 HX6 A6 R6 B6 C7 b7
        by_cases hp' : wrP ds cop ⟨y0, es⟩
        · obtain rfl := hr.of_yes hp'
          have eR := dUnhide EYH ⟨hok, hp'⟩
          have x0 := (X7.2 0 _ rfl).1
          have x1 := (X7.2 1 _ rfl).1
          clear hr EYH ENH X7
          obtain ⟨z0, f0⟩ := R9.2 0 _ rfl
          obtain ⟨z1, f1⟩ := R9.2 1 _ rfl
          have FIN : Hid (BxZ ((w7.setCell ⟨w.heap.size + 1, 0, none⟩ (.int .i64 y0)).setCell ⟨w.heap.size + 1, 1, none⟩ (.slice ua es.length uc)) w.heap.size (w.heap.size + 1) [.int .i64 y0, .slice ua es.length uc] ∧ Below w.heap.size w ((w7.setCell ⟨w.heap.size + 1, 0, none⟩ (.int .i64 y0)).setCell ⟨w.heap.size + 1, 1, none⟩ (.slice ua es.length uc)) ∧ WAp ((w7.setCell ⟨w.heap.size + 1, 0, none⟩ (.int .i64 y0)).setCell ⟨w.heap.size + 1, 1, none⟩ (.slice ua es.length uc)) w.heap.size (.slice ua es.length uc) es) := And.intro ((R9.put 0 (.int .i64 y0)).put 1 (.slice ua es.length uc)) (And.intro (Below.setCell (p := ⟨w.heap.size + 1, 1, none⟩) (Below.setCell (p := ⟨w.heap.size + 1, 0, none⟩) B9 (by simp only; omega) (.int .i64 y0)) (by simp only; omega) (.slice ua es.length uc)) (WAp.mono (WAp.far (WAp.far A9 (b := w.heap.size + 1) (o := 0) (by omega) (.int .i64 y0)) (b := w.heap.size + 1) (o := 1) (by omega) (.slice ua es.length uc)) (show w.heap.size ≤ rb + 1 by omega)))
          clear R9 B9 A9
          subst eR
          go_wp2
          have fin := dUnhide FIN
          generalize ((w7.setCell ⟨w.heap.size + 1, 0, none⟩ (.int .i64 y0)).setCell ⟨w.heap.size + 1, 1, none⟩ (.slice ua es.length uc)) = V at *
          obtain ⟨r, b, ap⟩ := fin
          have q0 := (r.2 0 _ rfl).1
          have q1 := (r.2 1 _ rfl).1
          exact bodyPost_ret (v := .tuple #[.agg #[.int .i64 y0, .slice ua es.length uc], .bool true]) (by simp [results, Tryz.results18, go_sem, q0, q1]) rfl ⟨⟨_, _, rfl, ap⟩, b⟩
        · obtain rfl := hr.of_no hp'
          have eR := dUnhide ENH (fun h => hp' h.2)
          clear hr EYH ENH X7
          obtain ⟨z0, f0⟩ := R9.2 0 _ rfl
          obtain ⟨z1, f1⟩ := R9.2 1 _ rfl
          have FIN : Hid (BxZ ((w7.setCell ⟨w.heap.size + 1, 0, none⟩ (.int .i64 0)).setCell ⟨w.heap.size + 1, 1, none⟩ (.slice none 0 0)) w.heap.size (w.heap.size + 1) [.int .i64 0, .slice none 0 0] ∧ Below w.heap.size w ((w7.setCell ⟨w.heap.size + 1, 0, none⟩ (.int .i64 0)).setCell ⟨w.heap.size + 1, 1, none⟩ (.slice none 0 0)) ∧ WAp ((w7.setCell ⟨w.heap.size + 1, 0, none⟩ (.int .i64 0)).setCell ⟨w.heap.size + 1, 1, none⟩ (.slice none 0 0)) w.heap.size (.slice ua es.length uc) es) := And.intro ((R9.put 0 (.int .i64 0)).put 1 (.slice none 0 0)) (And.intro (Below.setCell (p := ⟨w.heap.size + 1, 1, none⟩) (Below.setCell (p := ⟨w.heap.size + 1, 0, none⟩) B9 (by simp only; omega) (.int .i64 0)) (by simp only; omega) (.slice none 0 0)) (WAp.mono (WAp.far (WAp.far A9 (b := w.heap.size + 1) (o := 0) (by omega) (.int .i64 0)) (b := w.heap.size + 1) (o := 1) (by omega) (.slice none 0 0)) (show w.heap.size ≤ rb + 1 by omega)))
          clear R9 B9 A9
          subst eR
          go_wp2
          have fin := dUnhide FIN
          generalize ((w7.setCell ⟨w.heap.size + 1, 0, none⟩ (.int .i64 0)).setCell ⟨w.heap.size + 1, 1, none⟩ (.slice none 0 0)) = V at *
          obtain ⟨r, b, ap⟩ := fin
          have q0 := (r.2 0 _ rfl).1
          have q1 := (r.2 1 _ rfl).1
          exact bodyPost_ret (v := .tuple #[.agg #[.int .i64 0, .slice none 0 0], .bool false]) (by simp [results, Tryz.results18, go_sem, q0, q1]) rfl ⟨⟨_, _, rfl, WAp.nil _ _ _⟩, b⟩
      · rw [Bool.not_eq_true] at hok
        have eR := (dUnhide EN) (fun h => by rw [hok] at h; exact absurd h.1 (by simp))
        rw [hok] at C6
        clear EY EN ES
        go_wp2_with fail
        refine C6.mono ?_
        rintro e w7 ⟨rfl, b7⟩
        have A9 := WAp.below (dUnhide HA) b7
        have R9 := (dUnhide HR).below b7
        have B9 := belowThen (dUnhide HB) b7
        clear C6 HX HA HR HB HG b7
        obtain ⟨z0, f0⟩ := R9.2 0 _ rfl
        obtain ⟨z1, f1⟩ := R9.2 1 _ rfl
        have FIN : Hid (BxZ ((w7.setCell ⟨w.heap.size + 1, 0, none⟩ (.int .i64 0)).setCell ⟨w.heap.size + 1, 1, none⟩ (.slice none 0 0)) w.heap.size (w.heap.size + 1) [.int .i64 0, .slice none 0 0] ∧ Below w.heap.size w ((w7.setCell ⟨w.heap.size + 1, 0, none⟩ (.int .i64 0)).setCell ⟨w.heap.size + 1, 1, none⟩ (.slice none 0 0)) ∧ WAp ((w7.setCell ⟨w.heap.size + 1, 0, none⟩ (.int .i64 0)).setCell ⟨w.heap.size + 1, 1, none⟩ (.slice none 0 0)) w.heap.size (.slice ua es.length uc) es) := And.intro ((R9.put 0 (.int .i64 0)).put 1 (.slice none 0 0)) (And.intro (Below.setCell (p := ⟨w.heap.size + 1, 1, none⟩) (Below.setCell (p := ⟨w.heap.size + 1, 0, none⟩) B9 (by simp only; omega) (.int .i64 0)) (by simp only; omega) (.slice none 0 0)) (WAp.mono (WAp.far (WAp.far A9 (b := w.heap.size + 1) (o := 0) (by omega) (.int .i64 0)) (b := w.heap.size + 1) (o := 1) (by omega) (.slice none 0 0)) (show w.heap.size ≤ rb + 1 by omega)))
        clear R9 B9 A9
        subst eR
        go_wp2
        have fin := dUnhide FIN
        generalize ((w7.setCell ⟨w.heap.size + 1, 0, none⟩ (.int .i64 0)).setCell ⟨w.heap.size + 1, 1, none⟩ (.slice none 0 0)) = V at *
        obtain ⟨r, b, ap⟩ := fin
        have q0 := (r.2 0 _ rfl).1
        have q1 := (r.2 1 _ rfl).1
        exact bodyPost_ret (v := .tuple #[.agg #[.int .i64 0, .slice none 0 0], .bool false]) (by simp [results, Tryz.results18, go_sem, q0, q1]) rfl ⟨⟨_, _, rfl, WAp.nil _ _ _⟩, b⟩
end Go.Proofs.YthndkkjgjhgdnaaGreatDoor
