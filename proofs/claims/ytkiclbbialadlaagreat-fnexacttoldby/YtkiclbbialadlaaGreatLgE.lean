/- What a reader told: spec.ToldBy, impl.ToldBy. -/
import Derived.Test.YtkiclbbialadlaaGreatGk7
import Derived.Test.YtkiclbbialadlaaGreatGaT
import Derived.Test.YtkiclbbialadlaaGreatRsR
namespace Go.Proofs.YtkiclbbialadlaaGreat
open Go.ChangeShapes Go.WideShapes Go.ChangeAt Go.RowKit
set_option linter.unusedVariables false
set_option linter.unusedSimpArgs false
set_option maxRecDepth 100000

def toldG (es : List Ev) (k : Nat) : Se × Bool := (⟨(es.getD k zeroEv).pl, (es.getD k zeroEv).data, true⟩, (es.getD k zeroEv).kind == 1)
theorem toldG_at (es : List Ev) (k : Nat) (h : k < es.length) : toldG es k = (⟨es[k].pl, es[k].data, true⟩, es[k].kind == 1) := by
 unfold toldG
 rw [List.getD_eq_getElem?_getD, List.getElem?_eq_getElem h]
 rfl
noncomputable def toldW (m : Wo) (x : Int) : List Se := @ite _ (woP m ∧ 0 ≤ x ∧ x < 2) (Classical.propDecidable _) (chrL (toldG (m.readers.getD x.toNat ⟨0, 0, []⟩).out) (m.readers.getD x.toNat ⟨0, 0, []⟩).out.length) []
theorem toldW_yes {m : Wo} {x : Int} (h : woP m ∧ 0 ≤ x ∧ x < 2) : toldW m x = chrL (toldG (m.readers.getD x.toNat ⟨0, 0, []⟩).out) (m.readers.getD x.toNat ⟨0, 0, []⟩).out.length := if_pos h
theorem toldW_no {m : Wo} {x : Int} (h : ¬ (woP m ∧ 0 ≤ x ∧ x < 2)) : toldW m x = [] := if_neg h
theorem sizReaderS_at (rs : List Rr) (a : Nat) (h : a < rs.length) : sizReader rs[a] ≤ sizReaderS rs := by
 have := sumPd_mem sizReader h
 unfold sizReaderS sizD
 omega
theorem readerAt {ra : Option Addr} {rc : Nat} {rs : List Rr} {w : World} (h : RdReaderS (.slice ra rs.length rc) rs w) {a : Nat} (ha : a < rs.length) : ∃ b off oa oc, ra = some ⟨b, off, none⟩ ∧ ∀ W, Below w.heap.size w W → W.cell? ⟨b, off + a * 3, none⟩ = some (.int .i64 rs[a].epoch) ∧ W.cell? ⟨b, off + a * 3 + 1, none⟩ = some (.int .i64 rs[a].off) ∧ W.cell? ⟨b, off + a * 3 + 2, none⟩ = some (.slice oa rs[a].out.length oc) ∧ RdEventS (.slice oa rs[a].out.length oc) rs[a].out W := by
 obtain ⟨ps, rfl, h1, h2⟩ := h
 rw [List.length_map] at ha h1
 obtain ⟨b, off, rfl, hc⟩ := h1.pd ha
 obtain ⟨oa, oc, e, -⟩ := formReader (h2 _ (List.getElem_mem ha))
 have hr := h2 _ (List.getElem_mem ha)
 have hck := hc a ha
 simp only [List.getElem_map]
 generalize ps[a] = p at *
 obtain ⟨pc, pl, m⟩ := p
 obtain ⟨x0, x1, x2, rfl⟩ := list3_of pl
 unfold Pd.val at e hr
 simp only at e hr hck
 simp at e
 obtain ⟨rfl, rfl, rfl⟩ := e
 have c0 := hck 0 _ rfl
 have c1 := hck 1 _ rfl
 have c2 := hck 2 _ rfl
 simp only [Nat.add_zero] at c0
 refine ⟨b, off, oa, oc, rfl, fun W hb => ⟨(hb.cell (p := ⟨b, off + a * 3, none⟩) (dCell_lt c0)).trans c0, (hb.cell (p := ⟨b, off + a * 3 + 1, none⟩) (dCell_lt c1)).trans c1, (hb.cell (p := ⟨b, off + a * 3 + 2, none⟩) (dCell_lt c2)).trans c2, ?_⟩⟩
 obtain ⟨sv, e, hs⟩ := hr
 simp at e
 subst e
 exact hs.below hb
set_option maxHeartbeats 8000000 in
theorem specTold_any (v : Value) (m : Wo) (x : Int) (w : World) (ok : okWorld m) (hs : sizWorld m ≤ 1048576) (hv : RdWorld v m w) :
  Calls Tryz.prog 17 #[v, .int .i64 x] w fun e w' => (∃ o, e = .returned o ∧ OwnRw 3 Se.cl w' w.heap.size o (toldW m x)) ∧ Below w.heap.size w w' := by
 have CW := dH fun W (hb : Below w.heap.size w W) => specWorldOk_any v m W ok hs (hv.below hb)
 obtain ⟨da, dc, sa, sc, la, lc, ea, ec, wa, wc, na, nc, ra, rc', ta, tc, rfl, -, -, -, -, -, -, hre, -⟩ := partsWorld hv
 have HR := dH fun a (ha : a < m.readers.length) => readerAt hre ha
 obtain ⟨⟨ds, cop⟩, stores, lost, ⟨eras, trim⟩, writers, mends, readers, sent, torn⟩ := m
 have hsl : ∀ a (ha : a < readers.length), (readers[a]).out.length ≤ 1048576 := fun a ha => by
  have h1 := sizReaderS_at readers a ha
  have h2 : sizReaderS readers ≤ 1048576 := by unfold sizWorld at hs; simp only at hs; omega
  unfold sizReader sizEventS at h1
  omega
 replace hsl := dH hsl
 simp only at *
 clear hv hs ok hre
 have HW : Hid (∀ R, (∀ a : Nat, woP ⟨(ds, cop), stores, lost, ⟨eras, trim⟩, writers, mends, readers, sent, torn⟩ → x = (a : Int) → a < 2 → (h : a < readers.length) → R = chrL (toldG readers[a].out) readers[a].out.length) → (¬ (woP ⟨(ds, cop), stores, lost, ⟨eras, trim⟩, writers, mends, readers, sent, torn⟩ ∧ 0 ≤ x ∧ x < 2) → R = []) → toldW ⟨(ds, cop), stores, lost, ⟨eras, trim⟩, writers, mends, readers, sent, torn⟩ x = R) := fun R h1 h2 => by
  by_cases h : woP ⟨(ds, cop), stores, lost, ⟨eras, trim⟩, writers, mends, readers, sent, torn⟩ ∧ 0 ≤ x ∧ x < 2
  ·have hn : x.toNat < readers.length := by have : readers.length = 2 := h.1.2.2.1.1; omega
   rw [toldW_yes h, h1 x.toNat h.1 (by omega) (by omega) hn, List.getD_eq_getElem?_getD, List.getElem?_eq_getElem hn]
   rfl
  ·rw [toldW_no h, h2 h]
 have HL : Hid (woP ⟨(ds, cop), stores, lost, ⟨eras, trim⟩, writers, mends, readers, sent, torn⟩ → readers.length = 2) := fun h => h.2.2.1.1
 generalize toldW ⟨(ds, cop), stores, lost, ⟨eras, trim⟩, writers, mends, readers, sent, torn⟩ x = R at *
 have B0 : Below w.heap.size w (w.alloc (.cells #[.slice da ds.length dc, .int .i64 cop, .slice sa stores.length sc, .slice la lost.length lc, .slice ea eras.length ec, .int .i64 trim, .slice wa writers.length wc, .slice na mends.length nc, .slice ra readers.length rc', .slice ta sent.length tc, .bool torn] 47)) := (Below.refl _ _).alloc (Nat.le_refl _) _
 have X0 := Bx.new w [.slice da ds.length dc, .int .i64 cop, .slice sa stores.length sc, .slice la lost.length lc, .slice ea eras.length ec, .int .i64 trim, .slice wa writers.length wc, .slice na mends.length nc, .slice ra readers.length rc', .slice ta sent.length tc, .bool torn] 47
 have bE : ∀ (w : World), Below w.heap.size w (w.alloc (.cells #[] 68)) := fun w => (Below.refl _ _).alloc (Nat.le_refl _) _
 replace X0 := X0.below (bE _)
 replace B0 := bT B0 (bE _)
 by_cases hW : woP ⟨(ds, cop), stores, lost, ⟨eras, trim⟩, writers, mends, readers, sent, torn⟩
 case neg =>
  have CN := dH fun W hB => retB_no (dU CW W hB) hW
  have e1 := dU HW [] (fun a h => absurd h hW) (fun _ => rfl)
  subst e1
  clear HW CW hW HR
  go_enter Tryz.func17, Tryz.ntmps17
  go_wp2_with fail
  generalize (w.alloc (.cells #[.slice da ds.length dc, .int .i64 cop, .slice sa stores.length sc, .slice la lost.length lc, .slice ea eras.length ec, .int .i64 trim, .slice wa writers.length wc, .slice na mends.length nc, .slice ra readers.length rc', .slice ta sent.length tc, .bool torn] 47)).alloc (.cells #[] 68) = w0 at *
  refine (dU CN _ B0).mono ?_
  rintro e w2 ⟨rfl, bl2⟩
  have hB2 := dH (bT B0 bl2)
  clear bl2 CN
  go_wp2
  go_ret
  exact ⟨⟨_, rfl, OwnRw.nil _ _ _ _ (by omega)⟩, dU hB2⟩
 have CN := dH fun W hB => retB_yes (dU CW W hB) hW
 have h2 := dH (dU HL hW)
 by_cases hx : 0 ≤ x ∧ x ≤ 1
 case neg =>
  have CJ := dH fun W => (l1In_no x 0 1 (by omega) W).mono fun e w' h => (⟨h.1, by first | exact h.2 | exact h.2.symm⟩ : e = .returned (.bool false) ∧ w' = W)
  have e1 := dU HW [] (fun a h h1 h2 => absurd (by omega) hx) (fun _ => rfl)
  subst e1
  clear HW CW hW HR hx h2 HL hsl
  go_enter Tryz.func17, Tryz.ntmps17
  go_wp2_with fail
  generalize (w.alloc (.cells #[.slice da ds.length dc, .int .i64 cop, .slice sa stores.length sc, .slice la lost.length lc, .slice ea eras.length ec, .int .i64 trim, .slice wa writers.length wc, .slice na mends.length nc, .slice ra readers.length rc', .slice ta sent.length tc, .bool torn] 47)).alloc (.cells #[] 68) = w0 at *
  refine (dU CN _ B0).mono ?_
  rintro e w2 ⟨rfl, bl2⟩
  have hB2 := dH (bT B0 bl2)
  clear bl2 CN
  go_wp2_with fail
  refine (dU CJ _).mono ?_
  rintro e w3 ⟨rfl, rfl⟩
  go_wp2
  go_ret
  exact ⟨⟨_, rfl, OwnRw.nil _ _ _ _ (by omega)⟩, dU hB2⟩
 have CJ := dH fun W => (l1In_yes x 0 1 hx.1 hx.2 W).mono fun e w' h => (⟨h.1, by first | exact h.2 | exact h.2.symm⟩ : e = .returned (.bool true) ∧ w' = W)
 obtain ⟨a, rfl⟩ : ∃ a : Nat, x = (a : Int) := ⟨x.toNat, by omega⟩
 have ha : a < readers.length := by have := dU h2; omega
 have e1 := dU HW (chrL (toldG readers[a].out) readers[a].out.length) (fun a' _ h1 _ h3 => by
  have e : a = a' := by omega
  subst e
  rfl) (fun h => absurd ⟨hW, by omega, by omega⟩ h)
 subst e1
 obtain ⟨rb, ro, oa, oc, rfl, HA⟩ := dU HR a ha
 replace HA := dH HA
 have hol := dU hsl a ha
 clear HW CW hW HR hsl HL h2
 generalize readers[a] = r at *
 obtain ⟨ep, of, es⟩ := r
 simp only at HA hol ⊢
 have hra : (a : Int) < (readers.length : Int) := by omega
 go_enter Tryz.func17, Tryz.ntmps17
 go_wp2_with fail
 generalize (w.alloc (.cells #[.slice da ds.length dc, .int .i64 cop, .slice sa stores.length sc, .slice la lost.length lc, .slice ea eras.length ec, .int .i64 trim, .slice wa writers.length wc, .slice na mends.length nc, .slice (some ⟨rb, ro, none⟩) readers.length rc', .slice ta sent.length tc, .bool torn] 47)).alloc (.cells #[] 68) = w0 at *
 refine (dU CN _ B0).mono ?_
 rintro e w1 ⟨rfl, b1⟩
 have B1 := bT B0 b1
 replace X0 := X0.below b1
 clear b1 B0 CN
 go_wp2_with fail
 refine (dU CJ _).mono ?_
 rintro e w2 ⟨rfl, rfl⟩
 clear CJ
 have Z1 := dH B1.size
 have HX := dH X0
 clear X0
 go_wp2
 go_loopw [5, 6] (fun o y wr => ∃ k : Nat, y = .int .i64 (k : Int) ∧ k ≤ es.length ∧ Hid (ApR 68 3 Se.cl wr w2.heap.size o (chrL (toldG es) k)) ∧ Below w2.heap.size w2 wr) (fun _ y _ => es.length - (intOf y).toNat)
 case atStart => exact ⟨0, rfl, Nat.zero_le _, .inl ⟨rfl, _, rfl⟩, Below.refl _ _⟩
 case round =>
  obtain ⟨k, rfl, hk, hown, hb⟩ := hrel
  have hB := bT B1 hb
  have q8 := ((dU HX).below hb) 8 _ rfl
  obtain ⟨a0, a1, a2, hre⟩ := dU HA wr hB
  by_cases hlt : (k : Int) < (es.length : Int)
  ·have hkl : k < es.length := by omega
   obtain ⟨b, off, rfl, he⟩ := Rw.atEv hre hkl
   obtain ⟨g0, g1, g2⟩ := he k hkl
   have hlen := chrL_len (toldG es) k
   have NY := dH (chrL_yes (g := toldG es) (k := k))
   have NN := dH (chrL_no (g := toldG es) (k := k))
   rw [toldG_at es k hkl] at NY NN
   simp only at NY NN
   generalize hLL : chrL (toldG es) k = LL at *
   clear hLL he hre
   generalize es[k] = s at *
   obtain ⟨s0, s1, s2⟩ := s
   simp only at g0 g1 g2 NY NN
   have bV : Below wr.heap.size wr (wr.alloc (.cells #[.int .i64 s0, .int .i64 s1, .string s2] 102)) := (Below.refl _ _).alloc (Nat.le_refl _) _
   have hb3 := bT hb bV
   have own3 := dH (ApR.below (dU hown) bV)
   have XV := Bx.new wr [.int .i64 s0, .int .i64 s1, .string s2] 102
   have v0 := XV 0 _ rfl
   have v1 := XV 1 _ rfl
   have v2 := XV 2 _ rfl
   clear XV bV hown hb
   by_cases h1 : s0 = 1
   ·have e1 := dH (dU NY (by simp [h1]))
    have hb1 : (s0 == 1) = true := by simpa using h1
    clear NY NN h1
    have RE := rwSe_one (wr.alloc (.cells #[.int .i64 s0, .int .i64 s1, .string s2] 102)) ⟨s1, s2, true⟩ 68 1 (by omega)
    rw [show (wr.alloc (.cells #[.int .i64 s0, .int .i64 s1, .string s2] 102)).heap.size = wr.heap.size + 1 by simp] at RE
    replace RE := dH RE
    have own4 := dH (ApR.below (dU own3) ((Below.refl (wr.alloc (.cells #[.int .i64 s0, .int .i64 s1, .string s2] 102)).heap.size _).alloc (Nat.le_refl _) (.cells #[.int .i64 s1, .string s2, .bool true] 68)))
    have hb4 := hb3.alloc hb3.size (.cells #[.int .i64 s1, .string s2, .bool true] 68)
    have n1 : (LL.length + [(⟨s1, s2, true⟩ : Se)].length) * 32 ≤ 140737488355328 := by simp only [List.length_singleton]; omega
    have n2 : LL.length + [(⟨s1, s2, true⟩ : Se)].length ≤ 9223372036854775807 := by simp only [List.length_singleton]; omega
    clear own3
    go_wp2_with (at_builtin; refine wp_apR elemSent rfl _ _ rfl w2.heap.size _ LL rfl (dU own4) _ [⟨s1, s2, true⟩] rfl (dU RE) n1 n2 ?c4 ?_)
    case c4 => simpa using hb4.size
    intro v' w5 own5 g5 t5
    clear t5
    have hb5 := apR_after (w0 := w0) (ls := LL) elemSent (dU own4) hb4 hb4.size (Nat.le_refl _) g5
    replace own5 := dH own5
    clear g5 hb4 own4 hb3 RE
    go_wp2
    go_roundw
    case rel => exact ⟨k + 1, by go_num, by omega, by rw [dU e1]; exact dU own5, hb5⟩
    case measure => simp [intOf]; omega
   ·have e1 := dH (dU NN (by simp [h1]))
    have hb1 : (s0 == 1) = false := by simpa using h1
    clear NY NN h1
    go_wp2
    go_roundw
    case rel => exact ⟨k + 1, by go_num, by omega, by rw [dU e1]; exact dU own3, hb3⟩
    case measure => simp [intOf]; omega
  ·have e1 : k = es.length := by omega
   subst e1
   have O := dH ((ApR.own elemSent (dU hown)).mono (dU Z1))
   clear hown HA hre
   go_wp2
   go_ret
   exact ⟨⟨_, rfl, dU O⟩, hB⟩
set_option maxHeartbeats 8000000 in
theorem saidData_any (ep of : Int) (oa : Option Addr) (oc : Nat) (es : List Ev) (k : Nat) (hk : k < es.length) (w : World) (ht : RdEventS (.slice oa es.length oc) es w) :
  Calls Tryz.prog 57 #[.agg #[.int .i64 ep, .int .i64 of, .slice oa es.length oc], .int .i64 (k : Int)] w fun e w' => e = .returned (.tuple #[(toldG es k).1.val, .bool (toldG es k).2]) ∧ Below w.heap.size w w' := by
 have ba : ∀ (w : World) o, Below w.heap.size w (w.alloc o) := fun w o => (Below.refl _ _).alloc (Nat.le_refl _) o
 rw [toldG_at es k hk]
 have b1 := ba w (.cells #[.int .i64 ep, .int .i64 of, .slice oa es.length oc] 100)
 have b2 := bT b1 (ba _ (.cells #[.int .i64 0, .string ⟨#[]⟩, .bool false] 68))
 have e1 : (w.alloc (.cells #[.int .i64 ep, .int .i64 of, .slice oa es.length oc] 100)).heap.size = w.heap.size + 1 := by simp
 have e2 : ((w.alloc (.cells #[.int .i64 ep, .int .i64 of, .slice oa es.length oc] 100)).alloc (.cells #[.int .i64 0, .string ⟨#[]⟩, .bool false] 68)).heap.size = w.heap.size + 1 + 1 := by simp
 have XR := BxZ.new (B := w.heap.size) (w.alloc (.cells #[.int .i64 ep, .int .i64 of, .slice oa es.length oc] 100)) [.int .i64 0, .string ⟨#[]⟩, .bool false] 68 (by omega)
 rw [e1] at XR
 have HT := RdEventS.below ht b2
 obtain ⟨b, off, rfl, he⟩ := Rw.atEv HT hk
 obtain ⟨g0, g1, g2⟩ := he k hk
 clear he HT ht e1
 generalize es[k] = s at *
 obtain ⟨s0, s1, s2⟩ := s
 unfold Se.val
 simp only at *
 go_enter Tryz.func57, Tryz.ntmps57
 go_wp2_with fail
 generalize (w.alloc (.cells #[.int .i64 ep, .int .i64 of, .slice (some ⟨b, off, none⟩) es.length oc] 100)).alloc (.cells #[.int .i64 0, .string ⟨#[]⟩, .bool false] 68) = w2 at *
 have b3 := ba w2 (.cells #[.int .i64 s0, .int .i64 s1, .string s2] 102)
 have XS := Bx.new w2 [.int .i64 s0, .int .i64 s1, .string s2] 102
 rw [e2] at XS
 have R3 := dH (XR.below b3)
 have B3 := dH (bT b2 b3)
 clear XR b1 b2 b3 g0 g1 g2 e2
 generalize w2.alloc (.cells #[.int .i64 s0, .int .i64 s1, .string s2] 102) = w3 at *
 obtain ⟨y0, y1, y2⟩ : _ ∧ _ ∧ _ := ⟨XS 0 _ rfl, XS 1 _ rfl, XS 2 _ rfl⟩
 obtain ⟨⟨r0, f0⟩, ⟨r1, f1⟩, ⟨r2, f2⟩⟩ : (_ ∧ _) ∧ (_ ∧ _) ∧ (_ ∧ _) := ⟨(dU R3).2 0 _ rfl, (dU R3).2 1 _ rfl, (dU R3).2 2 _ rfl⟩
 have Y : Hid (BxZ (((w3.setCell ⟨w.heap.size + 1, 0, none⟩ (.int .i64 s1)).setCell ⟨w.heap.size + 1, 1, none⟩ (.string s2)).setCell ⟨w.heap.size + 1, 2, none⟩ (.bool true)).drew w.heap.size (w.heap.size + 1) [.int .i64 s1, .string s2, .bool true]) := (((dU R3).put 0 (.int .i64 s1)).put 1 (.string s2)).put 2 (.bool true)
 have D : Hid (Below w.heap.size w (((w3.setCell ⟨w.heap.size + 1, 0, none⟩ (.int .i64 s1)).setCell ⟨w.heap.size + 1, 1, none⟩ (.string s2)).setCell ⟨w.heap.size + 1, 2, none⟩ (.bool true)).drew) := ((((dU B3).setCell (p := ⟨w.heap.size + 1, 0, none⟩) (by simp only; omega) (.int .i64 s1)).setCell (p := ⟨w.heap.size + 1, 1, none⟩) (by simp only; omega) (.string s2)).setCell (p := ⟨w.heap.size + 1, 2, none⟩) (by simp only; omega) (.bool true)).drew
 clear XS
 go_region
 all_goals
  have q0 := ((dU Y).2 0 _ rfl).1
  have q1 := ((dU Y).2 1 _ rfl).1
  have q2 := ((dU Y).2 2 _ rfl).1
  clear Y r0 r1 r2 f0 f1 f2 R3 B3 y0 y1 y2
  generalize (((w3.setCell ⟨w.heap.size + 1, 0, none⟩ (.int .i64 s1)).setCell ⟨w.heap.size + 1, 1, none⟩ (.string s2)).setCell ⟨w.heap.size + 1, 2, none⟩ (.bool true)).drew = V at *
  go_wp2
  refine bodyPost_ret (v := .tuple #[.agg #[.int .i64 s1, .string s2, .bool true], .bool (s0 == 1)]) (by simp [results, Tryz.results57, go_sem, q0, q1, q2]) rfl ?_
  first | exact dU D | exact ⟨rfl, dU D⟩
set_option maxHeartbeats 8000000 in
theorem implTold_any (v : Value) (m : Wo) (x : Int) (w : World) (ok : okWorld m) (hs : sizWorld m ≤ 1048576) (hv : RdWorld v m w) :
  Calls Tryz.prog 18 #[v, .int .i64 x] w fun e w' => (∃ o, e = .returned o ∧ OwnRw 3 Se.cl w' w.heap.size o (toldW m x)) ∧ Below w.heap.size w w' := by
 have CW := dH fun W (hb : Below w.heap.size w W) => implWorldOk_any v m W ok hs (hv.below hb)
 obtain ⟨da, dc, sa, sc, la, lc, ea, ec, wa, wc, na, nc, ra, rc', ta, tc, rfl, -, -, -, -, -, -, hre, -⟩ := partsWorld hv
 have HR := dH fun a (ha : a < m.readers.length) => readerAt hre ha
 obtain ⟨⟨ds, cop⟩, stores, lost, ⟨eras, trim⟩, writers, mends, readers, sent, torn⟩ := m
 have hsl : ∀ a (ha : a < readers.length), (readers[a]).out.length ≤ 1048576 := fun a ha => by
  have h1 := sizReaderS_at readers a ha
  have h2 : sizReaderS readers ≤ 1048576 := by unfold sizWorld at hs; simp only at hs; omega
  unfold sizReader sizEventS at h1
  omega
 replace hsl := dH hsl
 simp only at *
 clear hv hs ok hre
 have HW : Hid (∀ R, (∀ a : Nat, woP ⟨(ds, cop), stores, lost, ⟨eras, trim⟩, writers, mends, readers, sent, torn⟩ → x = (a : Int) → a < 2 → (h : a < readers.length) → R = chrL (toldG readers[a].out) readers[a].out.length) → (¬ (woP ⟨(ds, cop), stores, lost, ⟨eras, trim⟩, writers, mends, readers, sent, torn⟩ ∧ 0 ≤ x ∧ x < 2) → R = []) → toldW ⟨(ds, cop), stores, lost, ⟨eras, trim⟩, writers, mends, readers, sent, torn⟩ x = R) := fun R h1 h2 => by
  by_cases h : woP ⟨(ds, cop), stores, lost, ⟨eras, trim⟩, writers, mends, readers, sent, torn⟩ ∧ 0 ≤ x ∧ x < 2
  ·have hn : x.toNat < readers.length := by have : readers.length = 2 := h.1.2.2.1.1; omega
   rw [toldW_yes h, h1 x.toNat h.1 (by omega) (by omega) hn, List.getD_eq_getElem?_getD, List.getElem?_eq_getElem hn]
   rfl
  ·rw [toldW_no h, h2 h]
 have HL : Hid (woP ⟨(ds, cop), stores, lost, ⟨eras, trim⟩, writers, mends, readers, sent, torn⟩ → readers.length = 2) := fun h => h.2.2.1.1
 generalize toldW ⟨(ds, cop), stores, lost, ⟨eras, trim⟩, writers, mends, readers, sent, torn⟩ x = R at *
 have B0 : Below w.heap.size w (w.alloc (.cells #[.slice da ds.length dc, .int .i64 cop, .slice sa stores.length sc, .slice la lost.length lc, .slice ea eras.length ec, .int .i64 trim, .slice wa writers.length wc, .slice na mends.length nc, .slice ra readers.length rc', .slice ta sent.length tc, .bool torn] 47)) := (Below.refl _ _).alloc (Nat.le_refl _) _
 have X0 := Bx.new w [.slice da ds.length dc, .int .i64 cop, .slice sa stores.length sc, .slice la lost.length lc, .slice ea eras.length ec, .int .i64 trim, .slice wa writers.length wc, .slice na mends.length nc, .slice ra readers.length rc', .slice ta sent.length tc, .bool torn] 47
 by_cases hW : woP ⟨(ds, cop), stores, lost, ⟨eras, trim⟩, writers, mends, readers, sent, torn⟩
 case neg =>
  have CN := dH fun W hB => retB_no (dU CW W hB) hW
  have e1 := dU HW [] (fun a h => absurd h hW) (fun _ => rfl)
  subst e1
  clear HW CW hW HR
  go_enter Tryz.func18, Tryz.ntmps18
  go_wp2_with fail
  generalize w.alloc (.cells #[.slice da ds.length dc, .int .i64 cop, .slice sa stores.length sc, .slice la lost.length lc, .slice ea eras.length ec, .int .i64 trim, .slice wa writers.length wc, .slice na mends.length nc, .slice ra readers.length rc', .slice ta sent.length tc, .bool torn] 47) = w0 at *
  refine (dU CN _ B0).mono ?_
  rintro e w2 ⟨rfl, bl2⟩
  have hB2 := dH (bT B0 bl2)
  clear bl2 CN
  go_wp2
  go_ret
  exact ⟨⟨_, rfl, OwnRw.nil _ _ _ _ (by omega)⟩, dU hB2⟩
 have CN := dH fun W hB => retB_yes (dU CW W hB) hW
 have h2 := dH (dU HL hW)
 by_cases hx : 0 ≤ x ∧ x ≤ 1
 case neg =>
  have e1 := dU HW [] (fun a h h1 h2 => absurd (by omega) hx) (fun _ => rfl)
  subst e1
  clear HW CW hW HR h2 HL hsl
  by_cases hx0 : x < 0
  ·have d0 : decide (x < 0) = true := decide_eq_true hx0
   clear hx
   go_enter Tryz.func18, Tryz.ntmps18
   go_wp2_with fail
   generalize w.alloc (.cells #[.slice da ds.length dc, .int .i64 cop, .slice sa stores.length sc, .slice la lost.length lc, .slice ea eras.length ec, .int .i64 trim, .slice wa writers.length wc, .slice na mends.length nc, .slice ra readers.length rc', .slice ta sent.length tc, .bool torn] 47) = w0 at *
   refine (dU CN _ B0).mono ?_
   rintro e w2 ⟨rfl, bl2⟩
   have hB2 := dH (bT B0 bl2)
   clear bl2 CN
   go_wp2
   go_ret
   exact ⟨⟨_, rfl, OwnRw.nil _ _ _ _ (by omega)⟩, dU hB2⟩
  ·have hx1 : 2 ≤ x := by omega
   have d0 : decide (x < 0) = false := decide_eq_false hx0
   have d1 : decide (2 ≤ x) = true := decide_eq_true hx1
   clear hx
   go_enter Tryz.func18, Tryz.ntmps18
   go_wp2_with fail
   generalize w.alloc (.cells #[.slice da ds.length dc, .int .i64 cop, .slice sa stores.length sc, .slice la lost.length lc, .slice ea eras.length ec, .int .i64 trim, .slice wa writers.length wc, .slice na mends.length nc, .slice ra readers.length rc', .slice ta sent.length tc, .bool torn] 47) = w0 at *
   refine (dU CN _ B0).mono ?_
   rintro e w2 ⟨rfl, bl2⟩
   have hB2 := dH (bT B0 bl2)
   clear bl2 CN
   go_wp2
   go_ret
   exact ⟨⟨_, rfl, OwnRw.nil _ _ _ _ (by omega)⟩, dU hB2⟩
 obtain ⟨a, rfl⟩ : ∃ a : Nat, x = (a : Int) := ⟨x.toNat, by omega⟩
 have ha : a < readers.length := by have := dU h2; omega
 have e1 := dU HW (chrL (toldG readers[a].out) readers[a].out.length) (fun a' _ h1 _ h3 => by
  have e : a = a' := by omega
  subst e
  rfl) (fun h => absurd ⟨hW, by omega, by omega⟩ h)
 subst e1
 obtain ⟨rb, ro, oa, oc, rfl, HA⟩ := dU HR a ha
 replace HA := dH HA
 have hol := dU hsl a ha
 clear HW CW hW HR hsl HL h2
 generalize readers[a] = r at *
 obtain ⟨ep, of, es⟩ := r
 simp only at HA hol ⊢
 have hra : (a : Int) < (readers.length : Int) := by omega
 have d0 : ¬ (a : Int) < 0 := by omega
 have d1 : ¬ (2 : Int) ≤ (a : Int) := by omega
 go_enter Tryz.func18, Tryz.ntmps18
 go_wp2_with fail
 generalize w.alloc (.cells #[.slice da ds.length dc, .int .i64 cop, .slice sa stores.length sc, .slice la lost.length lc, .slice ea eras.length ec, .int .i64 trim, .slice wa writers.length wc, .slice na mends.length nc, .slice (some ⟨rb, ro, none⟩) readers.length rc', .slice ta sent.length tc, .bool torn] 47) = w0 at *
 refine (dU CN _ B0).mono ?_
 rintro e w1 ⟨rfl, b1⟩
 have B1 := bT B0 b1
 have q8 := (X0.below b1) 8 _ rfl
 obtain ⟨a0, a1, a2, hre⟩ := dU HA w1 B1
 have bR : Below w1.heap.size w1 (w1.alloc (.cells #[.int .i64 ep, .int .i64 of, .slice oa es.length oc] 100)) := (Below.refl _ _).alloc (Nat.le_refl _) _
 have B2 := bT B1 bR
 have XR := Bx.new w1 [.int .i64 ep, .int .i64 of, .slice oa es.length oc] 100
 have r0 := XR 0 _ rfl
 have r1 := XR 1 _ rfl
 have r2 := XR 2 _ rfl
 have CL := dH (chronicled_any es.length 57 #[.agg #[.int .i64 ep, .int .i64 of, .slice oa es.length oc]] (toldG es) _ (by intro args w; rfl) hol fun W hW k hk => saidData_any ep of oa oc es k hk W (dU HA W (bT B2 hW)).2.2.2)
 clear X0 b1 B0 CN XR bR hre HA
 go_wp2_with fail
 refine (dU CL).mono ?_
 rintro e w3 ⟨⟨o, rfl, O3⟩, b3⟩
 have R := dH (And.intro ((ApR.own elemSent O3).mono B2.size) (bT B2 b3))
 clear CL O3 b3 B1 B2 q8 a0 a1 a2 r0 r1 r2
 go_wp2
 go_ret
 exact ⟨⟨_, rfl, (dU R).1⟩, (dU R).2⟩
theorem toldW_len {m : Wo} {x : Int} (hs : sizWorld m ≤ 1048576) : (toldW m x).length ≤ 1048576 := by
 by_cases h : woP m ∧ 0 ≤ x ∧ x < 2
 ·rw [toldW_yes h]
  have hn : x.toNat < m.readers.length := by have : m.readers.length = 2 := h.1.2.2.1.1; omega
  have h0 := chrL_len (toldG (m.readers.getD x.toNat ⟨0, 0, []⟩).out) (m.readers.getD x.toNat ⟨0, 0, []⟩).out.length
  have h1 := sizReaderS_at m.readers x.toNat hn
  have e : m.readers.getD x.toNat ⟨0, 0, []⟩ = m.readers[x.toNat] := by rw [List.getD_eq_getElem?_getD, List.getElem?_eq_getElem hn]; rfl
  have h2 : sizReaderS m.readers ≤ 1048576 := by unfold sizWorld at hs; omega
  rw [e] at h0 ⊢
  unfold sizReader sizEventS at h1
  omega
 ·rw [toldW_no h]
  simp
theorem bothToldBy_ (m0 : Wo) (m1 : Int) (ok0 : okWorld m0) (ok1 : okInt m1) (hs0 : sizWorld m0 ≤ 1048576) : ∃ (R : List Se), cntSentS R ≤ 8388608 ∧ (∀ W v0, RdWorld v0 m0 W → Calls Tryz.prog 17 #[v0, .int .i64 m1] W fun e w' => ∃ u, e = .returned u ∧ Sits (OwSentS W.heap.size w'.heap.size u R) W.heap.size w'.heap.size w' ∧ Below W.heap.size W w') ∧ (∀ W v0, RdWorld v0 m0 W → Calls Tryz.prog 18 #[v0, .int .i64 m1] W fun e w' => ∃ u, e = .returned u ∧ Sits (OwSentS W.heap.size w'.heap.size u R) W.heap.size w'.heap.size w' ∧ Below W.heap.size W w') := by
 refine ⟨toldW m0 m1, ?_, fun W v0 h => (specTold_any v0 m0 m1 W ok0 hs0 h).mono fun e w' ⟨⟨o, k1, k2⟩, k3⟩ => ⟨o, k1, sitsSentS k2, k3⟩, fun W v0 h => (implTold_any v0 m0 m1 W ok0 hs0 h).mono fun e w' ⟨⟨o, k1, k2⟩, k3⟩ => ⟨o, k1, sitsSentS k2, k3⟩⟩
 unfold cntSentS
 have := toldW_len (x := m1) hs0
 omega
end Go.Proofs.YtkiclbbialadlaaGreat
