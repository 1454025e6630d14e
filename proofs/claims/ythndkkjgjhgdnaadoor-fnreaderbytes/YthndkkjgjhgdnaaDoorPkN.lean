/- Records as bytes: spec's ReaderRead. -/
import Derived.Test.YthndkkjgjhgdnaaDoorHp1
import Derived.Test.YthndkkjgjhgdnaaDoorGk14
import Derived.Deep.RegionHeld3
import Derived.Deep.DeepCutAuto
namespace Go.Proofs.YthndkkjgjhgdnaaDoor
open Go.ChangeShapes Go.WideShapes Go.ChangeAt Go.RowKit
set_option linter.unusedVariables false
set_option linter.unusedSimpArgs false
set_option maxRecDepth 100000

/-- What is read of a reader, where that ends, and whether all was right. -/
def rdRa (bs : List UInt8) : Int × Nat × Bool := rdN bs 0 true
def rdRb (bs : List UInt8) : Int × Nat × Bool := rdN bs (rdRa bs).2.1 (rdRa bs).2.2
def rdRc (bs : List UInt8) : Int × Nat × Bool := rdN bs (rdRb bs).2.1 (rdRb bs).2.2
def rdRd (bs : List UInt8) : List Ev × Nat × Bool := rdEs bs (rdRc bs).1.toNat (rdRc bs).2.1 (rdRc bs).2.2
def rdRm (bs : List UInt8) : Rr := ⟨(rdRa bs).1, (rdRb bs).1, (rdRd bs).1⟩
open Classical in
/-- ReaderRead. -/
noncomputable def rdR (bs : List UInt8) : Rr × Bool := if endB bs (rdRd bs).2.1 (rdRd bs).2.2 = true ∧ rdPk (rdRm bs) then (rdRm bs, true) else (⟨0, 0, []⟩, false)
theorem rdR_yes (bs : List UInt8) (h : endB bs (rdRd bs).2.1 (rdRd bs).2.2 = true ∧ rdPk (rdRm bs)) : rdR bs = (rdRm bs, true) := if_pos h
theorem rdR_no (bs : List UInt8) (h : ¬ (endB bs (rdRd bs).2.1 (rdRd bs).2.2 = true ∧ rdPk (rdRm bs))) : rdR bs = (⟨0, 0, []⟩, false) := if_neg h
theorem rdEs_le (bs : List UInt8) (n q : Nat) (ok : Bool) (hq : q ≤ bs.length) : (rdEs bs n q ok).2.1 ≤ bs.length := by
  induction n generalizing q ok with
  | zero => exact hq
  | succ n ih =>
    cases ok
    · exact hq
    · rw [rdEs_succ]
      exact ih _ _ (rdE_step hq).2.1
theorem ApV.drawn {bk base : Nat} {w w' : World} {v : Value} {ms : List Ev} (h : ApV w base v ms) (hd : Drawn bk w w') (hb : bk < base) : ApV w' base v ms := ApR.kept elemEvent h hd.row (.inr fun e => by have := (ApR.touched elemEvent h e).1; omega)
set_option maxHeartbeats 16000000 in
theorem specReaderRead_any (v : Value) (bs : List UInt8) (w : World) (hv : Bs w v bs) (hl : bs.length ≤ 1048576) :
    Calls Tryd.prog 19 #[v] w fun e w' => (∃ (a : Option Addr) (c : Nat), e = .returned (.tuple #[.agg #[.int .i64 (rdR bs).1.epoch, .int .i64 (rdR bs).1.off, .slice a (rdR bs).1.out.length c], .bool (rdR bs).2]) ∧ ApV w' w.heap.size (.slice a (rdR bs).1.out.length c) (rdR bs).1.out) ∧ Below w.heap.size w w' := by
  have ba : ∀ (w : World) o, Below w.heap.size w (w.alloc o) := fun w o => (Below.refl _ _).alloc (Nat.le_refl _) o
  have hv0 := hv
  obtain ⟨-, a, cap, rfl, -⟩ := hv0
  have hne := hv.ne17
  have hvW := fun W (hb : Below w.heap.size w W) => hv.below hb
  have hRBall : ∀ b, w.heap.size ≤ b → bs = [] ∨ blockOf (.slice a bs.length cap) ≠ b := fun b hb => by
    by_cases h : bs = []
    · exact .inl h
    · exact .inr (by have := hv.lt h; omega)
  have B0 := belowThen (ba w (.cells #[.int .i64 0, .int .i64 0, .slice none 0 0] 36)) (ba _ (.cells #[.slice a bs.length cap, .int .i64 0, .bool true] 56))
  have C0 : Cu ((w.alloc (.cells #[.int .i64 0, .int .i64 0, .slice none 0 0] 36)).alloc (.cells #[.slice a bs.length cap, .int .i64 0, .bool true] 56)) w.heap.size (w.heap.size + 1) (.slice a bs.length cap) 0 true := by
    have := BxZ.new (B := w.heap.size) (w.alloc (.cells #[.int .i64 0, .int .i64 0, .slice none 0 0] 36)) [.slice a bs.length cap, .int .i64 0, .bool true] 56 (by simp)
    simpa [Cu] using this
  have R0 : BxZ ((w.alloc (.cells #[.int .i64 0, .int .i64 0, .slice none 0 0] 36)).alloc (.cells #[.slice a bs.length cap, .int .i64 0, .bool true] 56)) w.heap.size w.heap.size [.int .i64 0, .int .i64 0, .slice none 0 0] := (BxZ.new (B := w.heap.size) w [.int .i64 0, .int .i64 0, .slice none 0 0] 36 (Nat.le_refl _)).below (ba _ _)
  have e3 : ((w.alloc (.cells #[.int .i64 0, .int .i64 0, .slice none 0 0] 36)).alloc (.cells #[.slice a bs.length cap, .int .i64 0, .bool true] 56)).heap.size = w.heap.size + 2 := by simp
  have V0 := hv.below B0
  have EY : Hid (_ → _) := rdR_yes bs
  have EN : Hid (_ → _) := rdR_no bs
  have EM : Hid (rdRm bs = ⟨(rdRa bs).1, (rdRb bs).1, (rdRd bs).1⟩) := rfl
  have CN := dHide fun q ok W (hc : Cu W w.heap.size (w.heap.size + 1) (.slice a bs.length cap) q ok) (hb : Bs W (.slice a bs.length cap) bs) => specNum17_any w.heap.size (w.heap.size + 1) _ bs q ok W hc hb hl
  have la := rdN_le bs 0 true (Nat.zero_le _)
  have lb := rdN_le bs (rdRa bs).2.1 (rdRa bs).2.2 la
  have lc := rdN_le bs (rdRb bs).2.1 (rdRb bs).2.2 lb
  have EA : Hid (rdN bs 0 true = rdRa bs) := rfl
  have EB : Hid (rdN bs (rdRa bs).2.1 (rdRa bs).2.2 = rdRb bs) := rfl
  have EC : Hid (rdN bs (rdRb bs).2.1 (rdRb bs).2.2 = rdRc bs) := rfl
  have ED : Hid (rdEs bs (rdRc bs).1.toNat (rdRc bs).2.1 (rdRc bs).2.2 = rdRd bs) := rfl
  have HN : Hid (0 ≤ (rdRc bs).1 ∧ (rdRc bs).1 ≤ 9223372036854775807) := by
    unfold rdRc
    cases (rdRb bs).2.2
    · rw [rdN_off]; exact ⟨by simp, by simp⟩
    · exact (rdN_step lb).1
  generalize rdR bs = RR at *
  go_enter Tryd.func19, Tryd.ntmps19
  go_wp2_with fail
  generalize (w.alloc (.cells #[.int .i64 0, .int .i64 0, .slice none 0 0] 36)).alloc (.cells #[.slice a bs.length cap, .int .i64 0, .bool true] 56) = w0 at *
  have C1 := dUnhide CN 0 true w0 C0 V0
  rw [dUnhide EA] at C1
  refine C1.mono ?_
  rintro e w1 ⟨rfl, c1, d1⟩
  have la' : (rdRa bs).2.1 ≤ bs.length := la
  have lb' : (rdRb bs).2.1 ≤ bs.length := lb
  have lc' : (rdRc bs).2.1 ≤ bs.length := lc
  generalize rdRm bs = MM at *
  generalize rdRd bs = MD at *
  generalize rdRc bs = MC at *
  generalize rdRb bs = MB at *
  generalize rdRa bs = MA at *
  obtain ⟨y0, q1, ok1⟩ := MA
  obtain ⟨y1, q2, ok2⟩ := MB
  obtain ⟨n0, q3, ok3⟩ := MC
  simp only at la' lb' lc' c1 EB EC ED EY EN EM HN
  have hs1 := d1.size
  have V1 := V0.drawn d1 hne
  have B1 := d1.below B0 (by omega) (by omega)
  have R1 := R0.drawn d1 (by omega)
  have bX := ba w1 (.cells #[.int .i64 y0, .int .i64 0, .slice none 0 0] 36)
  have X2 := BxZ.new (B := w.heap.size) w1 [.int .i64 y0, .int .i64 0, .slice none 0 0] 36 (by omega)
  have V2 := V1.below bX
  have B2 := belowThen B1 bX
  have R2 := R1.below bX
  have C2 := dUnhide CN q1 ok1 _ (BxZ.below c1 bX) V2
  rw [dUnhide EB] at C2
  have hs2 : (w1.alloc (.cells #[.int .i64 y0, .int .i64 0, .slice none 0 0] 36)).heap.size = w1.heap.size + 1 := by simp
  clear C1 C0 V0 B0 R0 c1 d1 V1 B1 R1 bX la lb lc hv EA
  go_wp2_with fail
  generalize w1.alloc (.cells #[.int .i64 y0, .int .i64 0, .slice none 0 0] 36) = w2 at *
  refine C2.mono ?_
  rintro e w3 ⟨rfl, c3, d3⟩
  have hs3 := d3.size
  have X3 := X2.drawn d3 (by omega)
  have V3 := V2.drawn d3 hne
  have B3 := d3.below B2 (by omega) (by omega)
  have R3 := R2.drawn d3 (by omega)
  obtain ⟨g0, g1⟩ := X3.2 1 _ rfl
  have X4 := X3.put 1 (.int .i64 y1)
  have d4 : Drawn (w1.heap.size) w3 (w3.setCell ⟨w1.heap.size, 1, none⟩ (.int .i64 y1)) := (Drawn.refl _ _).setCell 1 _
  have V4 := V3.drawn d4 (hRBall _ (by omega))
  have c4 := BxZ.far (b' := w1.heap.size) (o := 1) c3 (by omega) (.int .i64 y1)
  have R4 := R3.far (b' := w1.heap.size) (o := 1) (by omega) (.int .i64 y1)
  have B4 := B3.setCell (p := ⟨w1.heap.size, 1, none⟩) (by simp only; omega) (.int .i64 y1)
  have C3 := dUnhide CN q2 ok2 _ c4 V4
  rw [dUnhide EC] at C3
  have hs4 : (w3.setCell ⟨w1.heap.size, 1, none⟩ (.int .i64 y1)).heap.size = w3.heap.size := by simp
  clear C2 c3 X3 V3 B3 R3 d3 d4 X2 V2 B2 R2
  go_wp2_with fail
  generalize w3.setCell ⟨w1.heap.size, 1, none⟩ (.int .i64 y1) = w4 at *
  refine C3.mono ?_
  rintro e w5 ⟨rfl, c5, d5⟩
  have hs5 := d5.size
  have X5 := X4.drawn d5 (by omega)
  have V5 := V4.drawn d5 hne
  have B5 := d5.below B4 (by omega) (by omega)
  have R5 := R4.drawn d5 (by omega)
  obtain ⟨hn0, hn1⟩ := dUnhide HN
  obtain ⟨n, rfl⟩ := Int.eq_ofNat_of_zero_le hn0
  rw [Int.toNat_natCast] at ED
  have HX5 := dHide X5
  have HC5 := dHide c5
  have HR5 := dHide R5
  have HB5 := dHide B5
  have HV5 := dHide fun W (hb : Below w.heap.size w W) => hvW W hb
  generalize w1.heap.size = rb at *
  clear C3 X4 V4 B4 R4 c4 X5 c5 R5 B5 d5 HN g0 g1 V5
  go_wp2
  go_loopw [7] (fun xv wr => ∃ (k : Nat) (es : List Ev) (p : Nat) (okb : Bool) (ua : Option Addr) (uc : Nat), xv = .int .i64 (k : Int) ∧ es.length = k ∧ k ≤ n ∧ k ≤ bs.length + 1 ∧ (okb = true → k ≤ p) ∧ p ≤ bs.length ∧ Hid (MD = (es ++ (rdEs bs (n - k) p okb).1, (rdEs bs (n - k) p okb).2)) ∧ Hid (Cu wr w.heap.size (w.heap.size + 1) (.slice a bs.length cap) p okb) ∧ Hid (BxZ wr w.heap.size rb [.int .i64 y0, .int .i64 y1, .slice ua es.length uc]) ∧ Hid (ApV wr (rb + 1) (.slice ua es.length uc) es) ∧ Hid (BxZ wr w.heap.size w.heap.size [.int .i64 0, .int .i64 0, .slice none 0 0]) ∧ Hid (Below w.heap.size w wr) ∧ rb + 1 ≤ wr.heap.size) (fun xv _ => bs.length + 2 - (intOf xv).toNat)
  case atStart => exact ⟨0, [], q3, ok3, none, 0, rfl, rfl, Nat.zero_le _, Nat.zero_le _, fun _ => Nat.zero_le _, lc', by simpa [Hid] using (dUnhide ED).symm, HC5, HX5, .inl ⟨rfl, none, rfl⟩, HR5, HB5, by omega⟩
  case round =>
    clear HC5 HX5 HR5 HB5 ED
    obtain ⟨k, es, p, okb, ua, uc, rfl, hel, hkn, hkb, hkp, hp, HK, HC, HX, HA, HR, HB, hsz⟩ := hrel
    have p2 := ((dUnhide HC).2 2 _ rfl).1
    have hszb := (dUnhide HB).size
    have HEL := dHide hel
    clear hel
    by_cases hlt : (k : Int) < (n : Int)
    · cases okb
      · have eD : MD = (es, p, false) := by
          have := dUnhide HK
          rw [rdEs_off] at this
          simpa using this
        have eMM : MM = ⟨y0, y1, es⟩ := by rw [dUnhide EM, eD]
        rw [eD] at EY EN
        replace eD := dHide eD
        replace eMM := dHide eMM
        simp only at EY EN
        have C6 := specEnd17_any w.heap.size (w.heap.size + 1) _ bs p false wr wr (dUnhide HC) (hvW wr (dUnhide HB))
        clear HK HC CN HV5 hvW hRBall
        by_cases hok : endB bs p false = true
        · rw [hok] at C6
          go_wp2_with fail
          refine C6.mono ?_
          rintro e w6 ⟨rfl, b6⟩
          have X6 := (dUnhide HX).below b6
          have A6 := dHide (ApR.below (dUnhide HA) b6)
          have R6 := dHide ((dUnhide HR).below b6)
          have B6 := dHide (belowThen (dUnhide HB) b6)
          have C7 := dHide (specReader17_any (.agg #[.int .i64 y0, .int .i64 y1, .slice ua es.length uc]) ⟨y0, y1, es⟩ w6 ⟨_, rfl, (ApR.own elemEvent (dUnhide A6)).rw⟩)
          have z0 := (X6.2 0 _ rfl).1
          have z1 := (X6.2 1 _ rfl).1
          have z2 := (X6.2 2 _ rfl).1
          have HX6 := dHide X6
          clear C6 HX HA HR HB X6 b6
          go_wp2_with fail
          refine (dUnhide C7).mono ?_
          rintro e w7 ⟨hr, b7⟩
          have X7 := (dUnhide HX6).below b7
          have A9 := ApR.below (dUnhide A6) b7
          have R9 := (dUnhide R6).below b7
          have B9 := belowThen (dUnhide B6) b7
          clear z0 z1 z2 HX6 A6 R6 B6 C7 b7
          by_cases hp' : rdPk ⟨y0, y1, es⟩
          · obtain rfl := hr.of_yes hp'
            have eR := dUnhide EY ⟨hok, by rw [dUnhide eMM]; exact hp'⟩
            have x0 := (X7.2 0 _ rfl).1
            have x1 := (X7.2 1 _ rfl).1
            have x2 := (X7.2 2 _ rfl).1
            rw [dUnhide eMM] at eR
            clear hr EY EN X7
            obtain ⟨z0, f0⟩ := R9.2 0 _ rfl
            obtain ⟨z1, f1⟩ := R9.2 1 _ rfl
            obtain ⟨z2, f2⟩ := R9.2 2 _ rfl
            have FIN := dHide (And.intro (((R9.put 0 (.int .i64 y0)).put 1 (.int .i64 y1)).put 2 (.slice ua es.length uc)) (And.intro (Below.setCell (p := ⟨w.heap.size, 2, none⟩) (Below.setCell (p := ⟨w.heap.size, 1, none⟩) (Below.setCell (p := ⟨w.heap.size, 0, none⟩) B9 (by simp only; omega) (.int .i64 y0)) (by simp only; omega) (.int .i64 y1)) (by simp only; omega) (.slice ua es.length uc)) (ApR.mono (ApR.far elemEvent (ApR.far elemEvent (ApR.far elemEvent A9 (b := w.heap.size) (o' := 0) (by omega) (.int .i64 y0)) (b := w.heap.size) (o' := 1) (by omega) (.int .i64 y1)) (b := w.heap.size) (o' := 2) (by omega) (.slice ua es.length uc)) (show w.heap.size ≤ rb + 1 by omega))))
            have FIN : Hid (BxZ (((w7.setCell ⟨w.heap.size, 0, none⟩ (.int .i64 y0)).setCell ⟨w.heap.size, 1, none⟩ (.int .i64 y1)).setCell ⟨w.heap.size, 2, none⟩ (.slice ua es.length uc)) w.heap.size w.heap.size [.int .i64 y0, .int .i64 y1, .slice ua es.length uc] ∧ Below w.heap.size w (((w7.setCell ⟨w.heap.size, 0, none⟩ (.int .i64 y0)).setCell ⟨w.heap.size, 1, none⟩ (.int .i64 y1)).setCell ⟨w.heap.size, 2, none⟩ (.slice ua es.length uc)) ∧ ApV (((w7.setCell ⟨w.heap.size, 0, none⟩ (.int .i64 y0)).setCell ⟨w.heap.size, 1, none⟩ (.int .i64 y1)).setCell ⟨w.heap.size, 2, none⟩ (.slice ua es.length uc)) w.heap.size (.slice ua es.length uc) es) := FIN
            clear R9 B9 A9
            subst eR
            go_wp2
            have fin := dUnhide FIN
            generalize (((w7.setCell ⟨w.heap.size, 0, none⟩ (.int .i64 y0)).setCell ⟨w.heap.size, 1, none⟩ (.int .i64 y1)).setCell ⟨w.heap.size, 2, none⟩ (.slice ua es.length uc)) = V at *
            obtain ⟨r, b, ap⟩ := fin
            have q0 := (r.2 0 _ rfl).1
            have q1 := (r.2 1 _ rfl).1
            have q2 := (r.2 2 _ rfl).1
            exact bodyPost_ret (v := .tuple #[.agg #[.int .i64 y0, .int .i64 y1, .slice ua es.length uc], .bool true]) (by simp [results, Tryd.results19, go_sem, q0, q1, q2]) rfl ⟨⟨_, _, rfl, ap⟩, b⟩
          · obtain rfl := hr.of_no hp'
            have eR := dUnhide EN (fun h => hp' (by rw [← dUnhide eMM]; exact h.2))
            clear hr EY EN X7
            obtain ⟨z0, f0⟩ := R9.2 0 _ rfl
            obtain ⟨z1, f1⟩ := R9.2 1 _ rfl
            obtain ⟨z2, f2⟩ := R9.2 2 _ rfl
            have FIN := dHide (And.intro (((R9.put 0 (.int .i64 0)).put 1 (.int .i64 0)).put 2 (.slice none 0 0)) (And.intro (Below.setCell (p := ⟨w.heap.size, 2, none⟩) (Below.setCell (p := ⟨w.heap.size, 1, none⟩) (Below.setCell (p := ⟨w.heap.size, 0, none⟩) B9 (by simp only; omega) (.int .i64 0)) (by simp only; omega) (.int .i64 0)) (by simp only; omega) (.slice none 0 0)) (ApR.mono (ApR.far elemEvent (ApR.far elemEvent (ApR.far elemEvent A9 (b := w.heap.size) (o' := 0) (by omega) (.int .i64 0)) (b := w.heap.size) (o' := 1) (by omega) (.int .i64 0)) (b := w.heap.size) (o' := 2) (by omega) (.slice none 0 0)) (show w.heap.size ≤ rb + 1 by omega))))
            have FIN : Hid (BxZ (((w7.setCell ⟨w.heap.size, 0, none⟩ (.int .i64 0)).setCell ⟨w.heap.size, 1, none⟩ (.int .i64 0)).setCell ⟨w.heap.size, 2, none⟩ (.slice none 0 0)) w.heap.size w.heap.size [.int .i64 0, .int .i64 0, .slice none 0 0] ∧ Below w.heap.size w (((w7.setCell ⟨w.heap.size, 0, none⟩ (.int .i64 0)).setCell ⟨w.heap.size, 1, none⟩ (.int .i64 0)).setCell ⟨w.heap.size, 2, none⟩ (.slice none 0 0)) ∧ ApV (((w7.setCell ⟨w.heap.size, 0, none⟩ (.int .i64 0)).setCell ⟨w.heap.size, 1, none⟩ (.int .i64 0)).setCell ⟨w.heap.size, 2, none⟩ (.slice none 0 0)) w.heap.size (.slice ua es.length uc) es) := FIN
            clear R9 B9 A9
            subst eR
            go_wp2
            have fin := dUnhide FIN
            generalize (((w7.setCell ⟨w.heap.size, 0, none⟩ (.int .i64 0)).setCell ⟨w.heap.size, 1, none⟩ (.int .i64 0)).setCell ⟨w.heap.size, 2, none⟩ (.slice none 0 0)) = V at *
            obtain ⟨r, b, ap⟩ := fin
            have q0 := (r.2 0 _ rfl).1
            have q1 := (r.2 1 _ rfl).1
            have q2 := (r.2 2 _ rfl).1
            exact bodyPost_ret (v := .tuple #[.agg #[.int .i64 0, .int .i64 0, .slice none 0 0], .bool false]) (by simp [results, Tryd.results19, go_sem, q0, q1, q2]) rfl ⟨⟨_, _, rfl, .inl ⟨rfl, none, rfl⟩⟩, b⟩
        · rw [Bool.not_eq_true] at hok
          have eR := dUnhide EN (fun h => by rw [hok] at h; exact absurd h.1 (by simp))
          rw [hok] at C6
          go_wp2_with fail
          refine C6.mono ?_
          rintro e w7 ⟨rfl, b7⟩
          have A9 := ApR.below (dUnhide HA) b7
          have R9 := (dUnhide HR).below b7
          have B9 := belowThen (dUnhide HB) b7
          clear C6 HX HA HR HB b7 EY EN
          obtain ⟨z0, f0⟩ := R9.2 0 _ rfl
          obtain ⟨z1, f1⟩ := R9.2 1 _ rfl
          obtain ⟨z2, f2⟩ := R9.2 2 _ rfl
          have FIN := dHide (And.intro (((R9.put 0 (.int .i64 0)).put 1 (.int .i64 0)).put 2 (.slice none 0 0)) (And.intro (Below.setCell (p := ⟨w.heap.size, 2, none⟩) (Below.setCell (p := ⟨w.heap.size, 1, none⟩) (Below.setCell (p := ⟨w.heap.size, 0, none⟩) B9 (by simp only; omega) (.int .i64 0)) (by simp only; omega) (.int .i64 0)) (by simp only; omega) (.slice none 0 0)) (ApR.mono (ApR.far elemEvent (ApR.far elemEvent (ApR.far elemEvent A9 (b := w.heap.size) (o' := 0) (by omega) (.int .i64 0)) (b := w.heap.size) (o' := 1) (by omega) (.int .i64 0)) (b := w.heap.size) (o' := 2) (by omega) (.slice none 0 0)) (show w.heap.size ≤ rb + 1 by omega))))
          have FIN : Hid (BxZ (((w7.setCell ⟨w.heap.size, 0, none⟩ (.int .i64 0)).setCell ⟨w.heap.size, 1, none⟩ (.int .i64 0)).setCell ⟨w.heap.size, 2, none⟩ (.slice none 0 0)) w.heap.size w.heap.size [.int .i64 0, .int .i64 0, .slice none 0 0] ∧ Below w.heap.size w (((w7.setCell ⟨w.heap.size, 0, none⟩ (.int .i64 0)).setCell ⟨w.heap.size, 1, none⟩ (.int .i64 0)).setCell ⟨w.heap.size, 2, none⟩ (.slice none 0 0)) ∧ ApV (((w7.setCell ⟨w.heap.size, 0, none⟩ (.int .i64 0)).setCell ⟨w.heap.size, 1, none⟩ (.int .i64 0)).setCell ⟨w.heap.size, 2, none⟩ (.slice none 0 0)) w.heap.size (.slice ua es.length uc) es) := FIN
          clear R9 B9 A9
          subst eR
          go_wp2
          have fin := dUnhide FIN
          generalize (((w7.setCell ⟨w.heap.size, 0, none⟩ (.int .i64 0)).setCell ⟨w.heap.size, 1, none⟩ (.int .i64 0)).setCell ⟨w.heap.size, 2, none⟩ (.slice none 0 0)) = V at *
          obtain ⟨r, b, ap⟩ := fin
          have q0 := (r.2 0 _ rfl).1
          have q1 := (r.2 1 _ rfl).1
          have q2 := (r.2 2 _ rfl).1
          exact bodyPost_ret (v := .tuple #[.agg #[.int .i64 0, .int .i64 0, .slice none 0 0], .bool false]) (by simp [results, Tryd.results19, go_sem, q0, q1, q2]) rfl ⟨⟨_, _, rfl, .inl ⟨rfl, none, rfl⟩⟩, b⟩
      · have hkp2 : k ≤ p := hkp rfl
        have HS : Hid (p ≤ (rdE bs p true).2.1 ∧ (rdE bs p true).2.1 ≤ bs.length ∧ ((rdE bs p true).2.2 = true → p + 1 ≤ (rdE bs p true).2.1)) := rdE_step hp
        obtain ⟨j, hj⟩ : ∃ j, n - k = j + 1 := ⟨n - k - 1, by omega⟩
        have hj2 : n - (k + 1) = j := by omega
        have HK2 : Hid (MD = (es ++ [(rdE bs p true).1] ++ (rdEs bs j (rdE bs p true).2.1 (rdE bs p true).2.2).1, (rdEs bs j (rdE bs p true).2.1 (rdE bs p true).2.2).2)) := by
          have := dUnhide HK
          rw [hj, rdEs_succ] at this
          rw [Hid, this]
          simp
        have HST := dHide fun (W : World) (hd : Drawn (w.heap.size + 1) wr W) =>
          (⟨(dUnhide HX).drawn hd (by omega), (dUnhide HA).drawn hd (by omega), (dUnhide HR).drawn hd (by omega), hd.below (dUnhide HB) hszb (by omega)⟩ :
            BxZ W w.heap.size rb [.int .i64 y0, .int .i64 y1, .slice ua es.length uc] ∧ ApV W (rb + 1) (.slice ua es.length uc) es ∧ BxZ W w.heap.size w.heap.size [.int .i64 0, .int .i64 0, .slice none 0 0] ∧ Below w.heap.size w W)
        have hTC := (ApR.touched elemEvent (dUnhide HA) (k := wr.heap.size))
        have HT : Hid (∀ b, wr.heap.size ≤ b → touch (.slice ua es.length uc) ≠ some b) := fun b hb e => by have := (ApR.touched elemEvent (dUnhide HA) e).2; omega
        have HT2 : Hid (∀ b, b ≤ rb → touch (.slice ua es.length uc) ≠ some b) := fun b hb e => by have := (ApR.touched elemEvent (dUnhide HA) e).1; omega
        have HVW := dHide hvW
        have C1 := dHide (dUnhide CN p true wr (dUnhide HC) (hvW wr (dUnhide HB)))
        have CT := dHide fun q ok W (hc : Cu W w.heap.size (w.heap.size + 1) (.slice a bs.length cap) q ok) (hb : Bs W (.slice a bs.length cap) bs) => specText17_any w.heap.size (w.heap.size + 1) _ bs q ok W hc hb hl
        have EE : Hid (rdE bs p true = (⟨(rdN bs p true).1, (rdN bs (rdN bs p true).2.1 (rdN bs p true).2.2).1, ⟨(rdT bs (rdN bs (rdN bs p true).2.1 (rdN bs p true).2.2).2.1 (rdN bs (rdN bs p true).2.1 (rdN bs p true).2.2).2.2).1.toArray⟩⟩, (rdT bs (rdN bs (rdN bs p true).2.1 (rdN bs p true).2.2).2.1 (rdN bs (rdN bs p true).2.1 (rdN bs p true).2.2).2.2).2)) := rfl
        have E2 := dHide fun W hc hb => dUnhide CN (rdN bs p true).2.1 (rdN bs p true).2.2 W hc hb
        have E3 := dHide fun W hc hb => dUnhide CT (rdN bs (rdN bs p true).2.1 (rdN bs p true).2.2).2.1 (rdN bs (rdN bs p true).2.1 (rdN bs p true).2.2).2.2 W hc hb
        generalize rdE bs p true = RE at *
        generalize (rdT bs (rdN bs (rdN bs p true).2.1 (rdN bs p true).2.2).2.1 (rdN bs (rdN bs p true).2.1 (rdN bs p true).2.2).2.2) = T3 at *
        generalize (rdN bs (rdN bs p true).2.1 (rdN bs p true).2.2) = N2 at *
        generalize (rdN bs p true) = N1 at *
        have eE := dUnhide EE
        subst eE
        obtain ⟨e0, p1, o1⟩ := N1
        obtain ⟨e1, p2', o2⟩ := N2
        obtain ⟨e2, p3, o3⟩ := T3
        simp only at HS HK2 C1 E2 E3
        clear CN CT EE HX HA HR HC HK hvW hTC
        go_wp2_with fail
        refine (dUnhide C1).mono ?_
        rintro e w3 ⟨rfl, c3, d3⟩
        have b3 : Below w3.heap.size w3 (w3.alloc (.cells #[.int .i64 e0, .int .i64 0, .string ⟨#[]⟩] 68)) := ba w3 _
        have D3 := dHide (d3.trans (Drawn.of_below b3))
        have c3' := BxZ.below c3 b3
        have Z3 := BxZ.new (B := wr.heap.size) w3 [.int .i64 e0, .int .i64 0, .string ⟨#[]⟩] 68 d3.size
        have hs3 : (w3.alloc (.cells #[.int .i64 e0, .int .i64 0, .string ⟨#[]⟩] 68)).heap.size = w3.heap.size + 1 := by simp
        have C2 := dHide (dUnhide E2 _ c3' (dUnhide HVW _ (dUnhide HST _ (dUnhide D3)).2.2.2))
        have hsd3 := d3.size
        clear C1 E2 c3 c3' d3 b3 p2
        go_wp2_with fail
        generalize w3.alloc (.cells #[.int .i64 e0, .int .i64 0, .string ⟨#[]⟩] 68) = w4 at *
        refine (dUnhide C2).mono ?_
        rintro e w5 ⟨rfl, c5, d5⟩
        have hsd5 := d5.size
        have Z5 := Z3.drawn d5 (by omega)
        obtain ⟨g1, f1⟩ := Z5.2 1 _ rfl
        have D6 := dHide (Drawn.setNew ((dUnhide D3).trans d5) (b := w3.heap.size) hsd3 1 (.int .i64 e1))
        have Z6 := Z5.put 1 (.int .i64 e1)
        have c6 := BxZ.far (b' := w3.heap.size) (o := 1) c5 (by omega) (.int .i64 e1)
        have C3 := dHide (dUnhide E3 _ c6 (dUnhide HVW _ (dUnhide HST _ (dUnhide D6)).2.2.2))
        have hs6 : (w5.setCell ⟨w3.heap.size, 1, none⟩ (.int .i64 e1)).heap.size = w5.heap.size := by simp
        clear C2 E3 c5 d5 Z3 Z5 D3 c6
        go_wp2_with fail
        generalize w5.setCell ⟨w3.heap.size, 1, none⟩ (.int .i64 e1) = w6 at *
        refine (dUnhide C3).mono ?_
        rintro e w7 ⟨rfl, c7, d7⟩
        have hsd7 := d7.size
        have Z7 := Z6.drawn d7 (by omega)
        obtain ⟨g2, f2⟩ := Z7.2 2 _ rfl
        have D8 := dHide (Drawn.setNew ((dUnhide D6).trans d7) (b := w3.heap.size) hsd3 2 (.string ⟨e2.toArray⟩))
        have Z8 := Z7.put 2 (.string ⟨e2.toArray⟩)
        have c8 := BxZ.far (b' := w3.heap.size) (o := 2) c7 (by omega) (.string ⟨e2.toArray⟩)
        have hs8 : (w7.setCell ⟨w3.heap.size, 2, none⟩ (.string ⟨e2.toArray⟩)).heap.size = w7.heap.size := by simp
        obtain ⟨x8, a8, r8, bb8⟩ := dUnhide HST _ (dUnhide D8)
        have HA8 := dHide a8
        have l2 := (x8.2 2 _ rfl).1
        have m0 := (Z8.2 0 _ rfl).1
        have m1 := (Z8.2 1 _ rfl).1
        have m2 := (Z8.2 2 _ rfl).1
        have T1 := dUnhide HT2 (w.heap.size + 1) (by omega)
        have T2 := dUnhide HT2 rb (Nat.le_refl _)
        have T3' := dUnhide HT2 w.heap.size (by omega)
        have hel8 : es.length ≤ 1048577 := by rw [dUnhide HEL]; omega
        have HT4 : Hid (∀ q, touch (.slice ua es.length uc) = some q → rb + 1 ≤ q) := fun q hq => (ApR.touched elemEvent (dUnhide HA8) hq).1
        have T1 := dHide T1
        have T2 := dHide T2
        have T3' := dHide T3'
        have RO : Hid (Rw 3 Ev.cl ((w7.setCell ⟨w3.heap.size, 2, none⟩ (.string ⟨e2.toArray⟩)).alloc (.cells #[.int .i64 e0, .int .i64 e1, .string ⟨e2.toArray⟩] 68)) (.slice (some ⟨w7.heap.size, 0, none⟩) 1 1) [(⟨e0, e1, ⟨e2.toArray⟩⟩ : Ev)]) := by
          have := rwV_one (w7.setCell ⟨w3.heap.size, 2, none⟩ (.string ⟨e2.toArray⟩)) ⟨e0, e1, ⟨e2.toArray⟩⟩ 68 1 (by omega)
          rw [hs8] at this
          exact this
        have HA9 := dHide (ApR.below (dUnhide HA8) (ba (w7.setCell ⟨w3.heap.size, 2, none⟩ (.string ⟨e2.toArray⟩)) (.cells #[.int .i64 e0, .int .i64 e1, .string ⟨e2.toArray⟩] 68)))
        have hs9 : ((w7.setCell ⟨w3.heap.size, 2, none⟩ (.string ⟨e2.toArray⟩)).alloc (.cells #[.int .i64 e0, .int .i64 e1, .string ⟨e2.toArray⟩] 68)).heap.size = w7.heap.size + 1 := by simp
        clear C3 c7 d7 Z6 Z7 D6 D8 HST HVW a8 Z8
        go_wp2_with (at_builtin; refine wp_apR elemEvent rfl _ _ rfl (rb + 1) (.slice ua es.length uc) es rfl (dUnhide HA9) _ [⟨e0, e1, ⟨e2.toArray⟩⟩] rfl (dUnhide RO) ?c1 ?c2 ?c3 ?_)
        case c1 => simp; omega
        case c2 => simp; omega
        case c3 => simp; omega
        intro v' w10 A10 G10 T10
        have b9 := ba (w7.setCell ⟨w3.heap.size, 2, none⟩ (.string ⟨e2.toArray⟩)) (.cells #[.int .i64 e0, .int .i64 e1, .string ⟨e2.toArray⟩] 68)
        obtain ⟨va, vc, rfl⟩ := ApR.slice elemEvent A10
        have hs10 : rb + 1 ≤ w10.heap.size := by have h1 := G10.size; have h2 := b9.size; omega
        have X11 := dHide (((x8.below b9).grown G10 (dUnhide T2)).put 2 (.slice va (es ++ [(⟨e0, e1, ⟨e2.toArray⟩⟩ : Ev)]).length vc))
        obtain ⟨l10, f10⟩ := ((x8.below b9).grown G10 (dUnhide T2)).2 2 _ rfl
        have C11 := dHide (((BxZ.below c8 b9).grown G10 (dUnhide T1)).far (b' := rb) (o := 2) (by omega) (.slice va (es ++ [(⟨e0, e1, ⟨e2.toArray⟩⟩ : Ev)]).length vc))
        have A11 := dHide (ApR.far elemEvent A10 (b := rb) (o' := 2) (by omega) (.slice va (es ++ [(⟨e0, e1, ⟨e2.toArray⟩⟩ : Ev)]).length vc))
        have R11 := dHide (((r8.below b9).grown G10 (dUnhide T3')).far (b' := rb) (o := 2) (by omega) (.slice va (es ++ [(⟨e0, e1, ⟨e2.toArray⟩⟩ : Ev)]).length vc))
        have B11 := dHide (Below.setCell (p := ⟨rb, 2, none⟩) ((belowThen bb8 b9).grown G10 (belowThen bb8 b9).size (fun q hq => by have := dUnhide HT4 q hq; omega)) (by simp only; omega) (.slice va (es ++ [(⟨e0, e1, ⟨e2.toArray⟩⟩ : Ev)]).length vc))
        have hs11 : (w10.setCell ⟨rb, 2, none⟩ (.slice va (es ++ [(⟨e0, e1, ⟨e2.toArray⟩⟩ : Ev)]).length vc)).heap.size = w10.heap.size := by simp
        have hLL : (es ++ [(⟨e0, e1, ⟨e2.toArray⟩⟩ : Ev)]).length = k + 1 := by rw [List.length_append, dUnhide HEL]; rfl
        have HLL := dHide hLL
        clear x8 r8 bb8 c8 A10 G10 T10 b9 l2 m0 m1 m2 HA8 HA9 RO T1 T2 T3' HT4 hLL
        generalize hLQ : (es ++ [(⟨e0, e1, ⟨e2.toArray⟩⟩ : Ev)]) = ES at *
        go_wp2
        go_roundw
        case rel => exact ⟨k + 1, ES, p3, o3, va, vc, by go_num, dUnhide HLL, by omega, by omega, fun h => by have := (dUnhide HS).2.2 h; omega, (dUnhide HS).2.1, by rw [hj2]; exact dUnhide HK2, C11, X11, A11, R11, B11, by rw [hs11]; exact hs10⟩
        case measure => simp [intOf]; omega
    · have hkn' : k = n := by omega
      have eD : MD = (es, p, okb) := by
        have := dUnhide HK
        rw [hkn', Nat.sub_self, rdEs_zero] at this
        simpa using this
      have eMM : MM = ⟨y0, y1, es⟩ := by rw [dUnhide EM, eD]
      rw [eD] at EY EN
      replace eD := dHide eD
      replace eMM := dHide eMM
      replace hkn' := dHide hkn'
      simp only at EY EN
      have C6 := specEnd17_any w.heap.size (w.heap.size + 1) _ bs p okb wr wr (dUnhide HC) (hvW wr (dUnhide HB))
      clear HK HC CN HV5 hvW hRBall
      by_cases hok : endB bs p okb = true
      · rw [hok] at C6
        go_wp2_with fail
        refine C6.mono ?_
        rintro e w6 ⟨rfl, b6⟩
        have X6 := (dUnhide HX).below b6
        have A6 := dHide (ApR.below (dUnhide HA) b6)
        have R6 := dHide ((dUnhide HR).below b6)
        have B6 := dHide (belowThen (dUnhide HB) b6)
        have C7 := dHide (specReader17_any (.agg #[.int .i64 y0, .int .i64 y1, .slice ua es.length uc]) ⟨y0, y1, es⟩ w6 ⟨_, rfl, (ApR.own elemEvent (dUnhide A6)).rw⟩)
        have z0 := (X6.2 0 _ rfl).1
        have z1 := (X6.2 1 _ rfl).1
        have z2 := (X6.2 2 _ rfl).1
        have HX6 := dHide X6
        clear C6 HX HA HR HB X6 b6
        go_wp2_with fail
        refine (dUnhide C7).mono ?_
        rintro e w7 ⟨hr, b7⟩
        have X7 := (dUnhide HX6).below b7
        have A9 := ApR.below (dUnhide A6) b7
        have R9 := (dUnhide R6).below b7
        have B9 := belowThen (dUnhide B6) b7
        clear z0 z1 z2 HX6 A6 R6 B6 C7 b7
        by_cases hp' : rdPk ⟨y0, y1, es⟩
        · obtain rfl := hr.of_yes hp'
          have eR := dUnhide EY ⟨hok, by rw [dUnhide eMM]; exact hp'⟩
          have x0 := (X7.2 0 _ rfl).1
          have x1 := (X7.2 1 _ rfl).1
          have x2 := (X7.2 2 _ rfl).1
          rw [dUnhide eMM] at eR
          clear hr EY EN X7
          obtain ⟨z0, f0⟩ := R9.2 0 _ rfl
          obtain ⟨z1, f1⟩ := R9.2 1 _ rfl
          obtain ⟨z2, f2⟩ := R9.2 2 _ rfl
          have FIN := dHide (And.intro (((R9.put 0 (.int .i64 y0)).put 1 (.int .i64 y1)).put 2 (.slice ua es.length uc)) (And.intro (Below.setCell (p := ⟨w.heap.size, 2, none⟩) (Below.setCell (p := ⟨w.heap.size, 1, none⟩) (Below.setCell (p := ⟨w.heap.size, 0, none⟩) B9 (by simp only; omega) (.int .i64 y0)) (by simp only; omega) (.int .i64 y1)) (by simp only; omega) (.slice ua es.length uc)) (ApR.mono (ApR.far elemEvent (ApR.far elemEvent (ApR.far elemEvent A9 (b := w.heap.size) (o' := 0) (by omega) (.int .i64 y0)) (b := w.heap.size) (o' := 1) (by omega) (.int .i64 y1)) (b := w.heap.size) (o' := 2) (by omega) (.slice ua es.length uc)) (show w.heap.size ≤ rb + 1 by omega))))
          have FIN : Hid (BxZ (((w7.setCell ⟨w.heap.size, 0, none⟩ (.int .i64 y0)).setCell ⟨w.heap.size, 1, none⟩ (.int .i64 y1)).setCell ⟨w.heap.size, 2, none⟩ (.slice ua es.length uc)) w.heap.size w.heap.size [.int .i64 y0, .int .i64 y1, .slice ua es.length uc] ∧ Below w.heap.size w (((w7.setCell ⟨w.heap.size, 0, none⟩ (.int .i64 y0)).setCell ⟨w.heap.size, 1, none⟩ (.int .i64 y1)).setCell ⟨w.heap.size, 2, none⟩ (.slice ua es.length uc)) ∧ ApV (((w7.setCell ⟨w.heap.size, 0, none⟩ (.int .i64 y0)).setCell ⟨w.heap.size, 1, none⟩ (.int .i64 y1)).setCell ⟨w.heap.size, 2, none⟩ (.slice ua es.length uc)) w.heap.size (.slice ua es.length uc) es) := FIN
          clear R9 B9 A9
          subst eR
          go_wp2
          have fin := dUnhide FIN
          generalize (((w7.setCell ⟨w.heap.size, 0, none⟩ (.int .i64 y0)).setCell ⟨w.heap.size, 1, none⟩ (.int .i64 y1)).setCell ⟨w.heap.size, 2, none⟩ (.slice ua es.length uc)) = V at *
          obtain ⟨r, b, ap⟩ := fin
          have q0 := (r.2 0 _ rfl).1
          have q1 := (r.2 1 _ rfl).1
          have q2 := (r.2 2 _ rfl).1
          exact bodyPost_ret (v := .tuple #[.agg #[.int .i64 y0, .int .i64 y1, .slice ua es.length uc], .bool true]) (by simp [results, Tryd.results19, go_sem, q0, q1, q2]) rfl ⟨⟨_, _, rfl, ap⟩, b⟩
        · obtain rfl := hr.of_no hp'
          have eR := dUnhide EN (fun h => hp' (by rw [← dUnhide eMM]; exact h.2))
          clear hr EY EN X7
          obtain ⟨z0, f0⟩ := R9.2 0 _ rfl
          obtain ⟨z1, f1⟩ := R9.2 1 _ rfl
          obtain ⟨z2, f2⟩ := R9.2 2 _ rfl
          have FIN := dHide (And.intro (((R9.put 0 (.int .i64 0)).put 1 (.int .i64 0)).put 2 (.slice none 0 0)) (And.intro (Below.setCell (p := ⟨w.heap.size, 2, none⟩) (Below.setCell (p := ⟨w.heap.size, 1, none⟩) (Below.setCell (p := ⟨w.heap.size, 0, none⟩) B9 (by simp only; omega) (.int .i64 0)) (by simp only; omega) (.int .i64 0)) (by simp only; omega) (.slice none 0 0)) (ApR.mono (ApR.far elemEvent (ApR.far elemEvent (ApR.far elemEvent A9 (b := w.heap.size) (o' := 0) (by omega) (.int .i64 0)) (b := w.heap.size) (o' := 1) (by omega) (.int .i64 0)) (b := w.heap.size) (o' := 2) (by omega) (.slice none 0 0)) (show w.heap.size ≤ rb + 1 by omega))))
          have FIN : Hid (BxZ (((w7.setCell ⟨w.heap.size, 0, none⟩ (.int .i64 0)).setCell ⟨w.heap.size, 1, none⟩ (.int .i64 0)).setCell ⟨w.heap.size, 2, none⟩ (.slice none 0 0)) w.heap.size w.heap.size [.int .i64 0, .int .i64 0, .slice none 0 0] ∧ Below w.heap.size w (((w7.setCell ⟨w.heap.size, 0, none⟩ (.int .i64 0)).setCell ⟨w.heap.size, 1, none⟩ (.int .i64 0)).setCell ⟨w.heap.size, 2, none⟩ (.slice none 0 0)) ∧ ApV (((w7.setCell ⟨w.heap.size, 0, none⟩ (.int .i64 0)).setCell ⟨w.heap.size, 1, none⟩ (.int .i64 0)).setCell ⟨w.heap.size, 2, none⟩ (.slice none 0 0)) w.heap.size (.slice ua es.length uc) es) := FIN
          clear R9 B9 A9
          subst eR
          go_wp2
          have fin := dUnhide FIN
          generalize (((w7.setCell ⟨w.heap.size, 0, none⟩ (.int .i64 0)).setCell ⟨w.heap.size, 1, none⟩ (.int .i64 0)).setCell ⟨w.heap.size, 2, none⟩ (.slice none 0 0)) = V at *
          obtain ⟨r, b, ap⟩ := fin
          have q0 := (r.2 0 _ rfl).1
          have q1 := (r.2 1 _ rfl).1
          have q2 := (r.2 2 _ rfl).1
          exact bodyPost_ret (v := .tuple #[.agg #[.int .i64 0, .int .i64 0, .slice none 0 0], .bool false]) (by simp [results, Tryd.results19, go_sem, q0, q1, q2]) rfl ⟨⟨_, _, rfl, .inl ⟨rfl, none, rfl⟩⟩, b⟩
      · rw [Bool.not_eq_true] at hok
        have eR := dUnhide EN (fun h => by rw [hok] at h; exact absurd h.1 (by simp))
        rw [hok] at C6
        go_wp2_with fail
        refine C6.mono ?_
        rintro e w7 ⟨rfl, b7⟩
        have A9 := ApR.below (dUnhide HA) b7
        have R9 := (dUnhide HR).below b7
        have B9 := belowThen (dUnhide HB) b7
        clear C6 HX HA HR HB b7 EY EN
        obtain ⟨z0, f0⟩ := R9.2 0 _ rfl
        obtain ⟨z1, f1⟩ := R9.2 1 _ rfl
        obtain ⟨z2, f2⟩ := R9.2 2 _ rfl
        have FIN := dHide (And.intro (((R9.put 0 (.int .i64 0)).put 1 (.int .i64 0)).put 2 (.slice none 0 0)) (And.intro (Below.setCell (p := ⟨w.heap.size, 2, none⟩) (Below.setCell (p := ⟨w.heap.size, 1, none⟩) (Below.setCell (p := ⟨w.heap.size, 0, none⟩) B9 (by simp only; omega) (.int .i64 0)) (by simp only; omega) (.int .i64 0)) (by simp only; omega) (.slice none 0 0)) (ApR.mono (ApR.far elemEvent (ApR.far elemEvent (ApR.far elemEvent A9 (b := w.heap.size) (o' := 0) (by omega) (.int .i64 0)) (b := w.heap.size) (o' := 1) (by omega) (.int .i64 0)) (b := w.heap.size) (o' := 2) (by omega) (.slice none 0 0)) (show w.heap.size ≤ rb + 1 by omega))))
        have FIN : Hid (BxZ (((w7.setCell ⟨w.heap.size, 0, none⟩ (.int .i64 0)).setCell ⟨w.heap.size, 1, none⟩ (.int .i64 0)).setCell ⟨w.heap.size, 2, none⟩ (.slice none 0 0)) w.heap.size w.heap.size [.int .i64 0, .int .i64 0, .slice none 0 0] ∧ Below w.heap.size w (((w7.setCell ⟨w.heap.size, 0, none⟩ (.int .i64 0)).setCell ⟨w.heap.size, 1, none⟩ (.int .i64 0)).setCell ⟨w.heap.size, 2, none⟩ (.slice none 0 0)) ∧ ApV (((w7.setCell ⟨w.heap.size, 0, none⟩ (.int .i64 0)).setCell ⟨w.heap.size, 1, none⟩ (.int .i64 0)).setCell ⟨w.heap.size, 2, none⟩ (.slice none 0 0)) w.heap.size (.slice ua es.length uc) es) := FIN
        clear R9 B9 A9
        subst eR
        go_wp2
        have fin := dUnhide FIN
        generalize (((w7.setCell ⟨w.heap.size, 0, none⟩ (.int .i64 0)).setCell ⟨w.heap.size, 1, none⟩ (.int .i64 0)).setCell ⟨w.heap.size, 2, none⟩ (.slice none 0 0)) = V at *
        obtain ⟨r, b, ap⟩ := fin
        have q0 := (r.2 0 _ rfl).1
        have q1 := (r.2 1 _ rfl).1
        have q2 := (r.2 2 _ rfl).1
        exact bodyPost_ret (v := .tuple #[.agg #[.int .i64 0, .int .i64 0, .slice none 0 0], .bool false]) (by simp [results, Tryd.results19, go_sem, q0, q1, q2]) rfl ⟨⟨_, _, rfl, .inl ⟨rfl, none, rfl⟩⟩, b⟩
end Go.Proofs.YthndkkjgjhgdnaaDoor
