/- Several texts in one: LgP, LgA, MuK, CpP. -/
import Derived.Test.YtkiclbbialadlaaGreatGz19
import Derived.Test.YtkiclbbialadlaaGreatGaA
import Derived.Test.YtkiclbbialadlaaGreatWkZ
import Derived.BigQuiet
import Derived.Test.YtkiclbbialadlaaGreatRows
import Derived.Conc.MuLib
import Derived.KernelRfl
import Derived.Laws.CopyOwn
namespace Go.Proofs.YtkiclbbialadlaaGreat
open Go.ChangeShapes Go.WideShapes Go.ChangeAt Go.RowKit
set_option linter.unusedSimpArgs false
set_option linter.unusedVariables false
set_option maxRecDepth 100000
def chrL (g : Nat → Se × Bool) : Nat → List Se
 | 0 => []
 | k + 1 => chrL g k ++ (if (g k).2 then [(g k).1] else [])
theorem chrL_len (g : Nat → Se × Bool) : ∀ k, (chrL g k).length ≤ k
 | 0 => Nat.le_refl _
 | k + 1 => by
  have := chrL_len g k
  unfold chrL
  rw [List.length_append]
  split <;> simp <;> omega
theorem chrL_yes {g : Nat → Se × Bool} {k : Nat} (h : (g k).2 = true) : chrL g (k + 1) = chrL g k ++ [(g k).1] := by rw [chrL, if_pos h]
theorem chrL_no {g : Nat → Se × Bool} {k : Nat} (h : (g k).2 = false) : chrL g (k + 1) = chrL g k := by rw [chrL, if_neg (by simp [h]), List.append_nil]
def lastG (trim : Int) (es : List Se) (k : Nat) : Se × Bool := (es.getD k zeroSe, (es.getD k zeroSe).sure && decide (trim < (es.getD k zeroSe).pl))
theorem lastG_at (trim : Int) (es : List Se) (k : Nat) (h : k < es.length) : lastG trim es k = (es[k], es[k].sure && decide (trim < es[k].pl)) := by
 unfold lastG
 rw [List.getD_eq_getElem?_getD, List.getElem?_eq_getElem h]
 rfl
theorem rwSe_one (w : World) (e : Se) (T : TypeId) (c : Nat) (hc : 1 ≤ c ∧ c ≤ 9223372036854775807) : Rw 3 Se.cl (w.alloc (.cells #[.int .i64 e.pl, .string e.data, .bool e.sure] T)) (.slice (some ⟨w.heap.size, 0, none⟩) 1 c) [e] := by
 refine ⟨by simp, _, _, rfl, by simpa using hc, .inr ⟨w.heap.size, 0, rfl, fun i hi j u hu => ?_⟩⟩
 obtain rfl : i = 0 := by simp at hi; omega
 simp only [List.getElem_cons_zero, Se.cl] at hu
 simpa using hu
noncomputable def logW (m : Wo) : List Se := @ite _ (woP m) (Classical.propDecidable _) (chrL (lastG m.reg.trim m.sent) m.sent.length) []
theorem logW_yes {m : Wo} (h : woP m) : logW m = chrL (lastG m.reg.trim m.sent) m.sent.length := if_pos h
theorem logW_no {m : Wo} (h : ¬ woP m) : logW m = [] := if_neg h
set_option maxHeartbeats 8000000 in
theorem specLog_any (v : Value) (m : Wo) (w : World) (ok : okWorld m) (hs : sizWorld m ≤ 1048576) (hv : RdWorld v m w) :
  Calls Tryz.prog 7 #[v] w fun e w' => (∃ o, e = .returned o ∧ OwnRw 3 Se.cl w' w.heap.size o (logW m)) ∧ Below w.heap.size w w' := by
 have CW := dH fun W (hb : Below w.heap.size w W) => specWorldOk_any v m W ok hs (hv.below hb)
 obtain ⟨da, dc, sa, sc, la, lc, ea, ec, wa, wc, na, nc, ra, rc', ta, tc, rfl, -, -, -, -, -, -, -, hse⟩ := partsWorld hv
 have HT := dH fun W (hW : Below w.heap.size w W) => RdSentS.below hse hW
 obtain ⟨⟨ds, cop⟩, stores, lost, ⟨eras, trim⟩, writers, mends, readers, sent, torn⟩ := m
 have hsl : sent.length ≤ 1048576 := by unfold sizWorld sizSentS at hs; simp only at hs; omega
 simp only at *
 clear hv hs ok hse
 have HW : Hid (∀ R, (woP ⟨(ds, cop), stores, lost, ⟨eras, trim⟩, writers, mends, readers, sent, torn⟩ → R = chrL (lastG trim sent) sent.length) → (¬ woP ⟨(ds, cop), stores, lost, ⟨eras, trim⟩, writers, mends, readers, sent, torn⟩ → R = []) → logW ⟨(ds, cop), stores, lost, ⟨eras, trim⟩, writers, mends, readers, sent, torn⟩ = R) := fun R h1 h2 => by
  by_cases h : woP ⟨(ds, cop), stores, lost, ⟨eras, trim⟩, writers, mends, readers, sent, torn⟩
  ·rw [logW_yes h, h1 h]
  ·rw [logW_no h, h2 h]
 generalize logW ⟨(ds, cop), stores, lost, ⟨eras, trim⟩, writers, mends, readers, sent, torn⟩ = R at *
 have B0 : Below w.heap.size w (w.alloc (.cells #[.slice da ds.length dc, .int .i64 cop, .slice sa stores.length sc, .slice la lost.length lc, .slice ea eras.length ec, .int .i64 trim, .slice wa writers.length wc, .slice na mends.length nc, .slice ra readers.length rc', .slice ta sent.length tc, .bool torn] 47)) := (Below.refl _ _).alloc (Nat.le_refl _) _
 have X0 := Bx.new w [.slice da ds.length dc, .int .i64 cop, .slice sa stores.length sc, .slice la lost.length lc, .slice ea eras.length ec, .int .i64 trim, .slice wa writers.length wc, .slice na mends.length nc, .slice ra readers.length rc', .slice ta sent.length tc, .bool torn] 47
 have z0 : w.heap.size ≤ (w.alloc (.cells #[.slice da ds.length dc, .int .i64 cop, .slice sa stores.length sc, .slice la lost.length lc, .slice ea eras.length ec, .int .i64 trim, .slice wa writers.length wc, .slice na mends.length nc, .slice ra readers.length rc', .slice ta sent.length tc, .bool torn] 47)).heap.size := by simp
 have HZ : Hid ((w.alloc (.cells #[.slice da ds.length dc, .int .i64 cop, .slice sa stores.length sc, .slice la lost.length lc, .slice ea eras.length ec, .int .i64 trim, .slice wa writers.length wc, .slice na mends.length nc, .slice ra readers.length rc', .slice ta sent.length tc, .bool torn] 47)).heap.size = w.heap.size + 1) := by simp [Hid]
 by_cases hW : woP ⟨(ds, cop), stores, lost, ⟨eras, trim⟩, writers, mends, readers, sent, torn⟩
 case neg =>
  have CN := dH fun W hB => retB_no (dU CW W hB) hW
  have e1 := dU HW [] (fun h => absurd h hW) (fun _ => rfl)
  subst e1
  clear HW CW hW HT
  go_enter Tryz.func7, Tryz.ntmps7
  go_wp2
  generalize w.alloc (.cells #[.slice da ds.length dc, .int .i64 cop, .slice sa stores.length sc, .slice la lost.length lc, .slice ea eras.length ec, .int .i64 trim, .slice wa writers.length wc, .slice na mends.length nc, .slice ra readers.length rc', .slice ta sent.length tc, .bool torn] 47) = w0 at *
  have HX := dH X0
  clear X0
  go_loopw [3, 4] (fun o y wr => y = .int .i64 0 ∧ (∃ a, o = .slice a 0 0) ∧ Below w0.heap.size w0 wr) (fun _ _ _ => 0)
  case atStart => exact ⟨rfl, ⟨_, rfl⟩, (Below.refl _ _).alloc (Nat.le_refl _) _⟩
  case round =>
   obtain ⟨rfl, ⟨oa, rfl⟩, hb⟩ := hrel
   have hB := bT B0 hb
   have X1 := (dU HX).below hb
   have q0 := X1 0 _ rfl
   have q1 := X1 1 _ rfl
   have q2 := X1 2 _ rfl
   have q3 := X1 3 _ rfl
   have q4 := X1 4 _ rfl
   have q5 := X1 5 _ rfl
   have q6 := X1 6 _ rfl
   have q7 := X1 7 _ rfl
   have q8 := X1 8 _ rfl
   have q9 := X1 9 _ rfl
   have q10 := X1 10 _ rfl
   clear X1
   by_cases hlt : (0 : Int) < (sent.length : Int)
   ·go_wp2_with fail
    refine (dU CN _ hB).mono ?_
    rintro e w2 ⟨rfl, bl2⟩
    have hB2 := dH (bT hB bl2)
    clear bl2 CN
    go_wp2
    go_ret
    exact ⟨⟨_, rfl, OwnRw.nil _ _ _ _ (by omega)⟩, dU hB2⟩
   ·clear CN
    go_wp2
    go_ret
    exact ⟨⟨_, rfl, OwnRw.nil _ _ _ _ (by omega)⟩, hB⟩
 have CN := dH fun W hB => retB_yes (dU CW W hB) hW
 have e1 := dU HW _ (fun _ => rfl) (fun h => absurd hW h)
 subst e1
 clear HW CW hW
 go_enter Tryz.func7, Tryz.ntmps7
 go_wp2
 generalize w.alloc (.cells #[.slice da ds.length dc, .int .i64 cop, .slice sa stores.length sc, .slice la lost.length lc, .slice ea eras.length ec, .int .i64 trim, .slice wa writers.length wc, .slice na mends.length nc, .slice ra readers.length rc', .slice ta sent.length tc, .bool torn] 47) = w0 at *
 have HX := dH X0
 clear X0
 go_loopw [3, 4] (fun o y wr => ∃ k : Nat, y = .int .i64 (k : Int) ∧ k ≤ sent.length ∧ Hid (ApR 68 3 Se.cl wr w0.heap.size o (chrL (lastG trim sent) k)) ∧ Below w0.heap.size w0 wr) (fun _ y _ => sent.length - (intOf y).toNat)
 case atStart => exact ⟨0, rfl, Nat.zero_le _, .inl ⟨rfl, _, rfl⟩, (Below.refl _ _).alloc (Nat.le_refl _) _⟩
 case round =>
  obtain ⟨k, rfl, hk, hown, hb⟩ := hrel
  have hB := bT B0 hb
  have X1 := (dU HX).below hb
  have q9 := X1 9 _ rfl
  by_cases hlt : (k : Int) < (sent.length : Int)
  ·have hkl : k < sent.length := by omega
   have q0 := X1 0 _ rfl
   have q1 := X1 1 _ rfl
   have q2 := X1 2 _ rfl
   have q3 := X1 3 _ rfl
   have q4 := X1 4 _ rfl
   have q5 := X1 5 _ rfl
   have q6 := X1 6 _ rfl
   have q7 := X1 7 _ rfl
   have q8 := X1 8 _ rfl
   have q10 := X1 10 _ rfl
   have hlen := chrL_len (lastG trim sent) k
   have NY := dH (chrL_yes (g := lastG trim sent) (k := k))
   have NN := dH (chrL_no (g := lastG trim sent) (k := k))
   rw [lastG_at trim sent k hkl] at NY NN
   simp only at NY NN
   generalize hLL : chrL (lastG trim sent) k = LL at *
   clear hLL
   go_wp2_with fail
   refine (dU CN _ hB).mono ?_
   rintro e w2 ⟨rfl, bl2⟩
   have hb2 := bT hb bl2
   have hB2 := bT B0 hb2
   have own2 := dH (ApR.below (dU hown) bl2)
   clear hown q0 q1 q2 q3 q4 q5 q6 q7 q8 q9 q10 X1 bl2 hB hb
   have X2 := (dU HX).below hb2
   have r9 := X2 9 _ rfl
   have r5 := X2 5 _ rfl
   clear X2
   obtain ⟨b, off, rfl, he⟩ := Rw.atSe (dU HT _ hB2) hkl
   obtain ⟨c0, c1, c2⟩ := he k hkl
   have HC : Hid (∀ W, Below w2.heap.size w2 W → SeAt W b (off + k * 3) sent[k]) := fun W h => (he k hkl).below h
   clear he
   generalize sent[k] = s at *
   obtain ⟨s0, s1, s2⟩ := s
   simp only at c0 c1 c2 NY NN
   cases s2 with
   | false =>
    have e1 := dH (dU NN (by simp))
    clear NY NN HC
    go_wp2_with fail
    go_quiet (fail)
    have own3 := dH (ApR.below (dU own2) (below_drewN (Below.refl _ _) nq))
    go_wp2
    go_roundw
    case rel => exact ⟨k + 1, by go_num, by omega, by rw [dU e1]; exact dU own3, below_drewN hb2 _⟩
    case measure => simp [intOf]; omega
   | true =>
    by_cases hp : trim < s0
    ·have e1 := dH (dU NY (by simp [hp]))
     have hd : decide (trim < s0) = true := decide_eq_true hp
     clear NY NN hp
     go_wp2_with fail
     go_quiet (fail)
     have bd := below_drewN (Below.refl w2.heap.size w2) nq
     have own3 := dH (ApR.below (dU own2) bd)
     have hb3 := bT hb2 bd
     have X3 := (dU HX).below hb3
     have t9 := X3 9 _ rfl
     obtain ⟨d0, d1, d2⟩ := dU HC _ bd
     clear X3 r9 r5 c0 c1 c2 own2 bd HC hd
     generalize w2.drewN nq = w3 at *
     have RE := dH (rwSe_one w3 ⟨s0, s1, true⟩ 68 1 (by omega))
     have own4 := dH (ApR.below (dU own3) ((Below.refl w3.heap.size w3).alloc (Nat.le_refl _) (.cells #[.int .i64 s0, .string s1, .bool true] 68)))
     have hb4 := hb3.alloc hb3.size (.cells #[.int .i64 s0, .string s1, .bool true] 68)
     clear own3
     go_wp2_with (at_builtin; refine wp_apR elemSent rfl _ _ rfl w0.heap.size _ LL rfl (dU own4) _ [⟨s0, s1, true⟩] rfl (dU RE) ?c2 ?c3 ?c4 ?_)
     case c2 => first | omega | (simp; omega)
     case c3 => first | omega | (simp; omega)
     case c4 => have := hb3.size; simp; omega
     intro v' w5 own5 g5 t5
     clear t5
     have hb5 := apR_after (w0 := w0) (ls := LL) elemSent (dU own4) hb4 hb4.size (Nat.le_refl _) g5
     replace own5 := dH own5
     clear g5 hb4 own4 hb3 RE
     go_wp2
     go_roundw
     case rel => exact ⟨k + 1, by go_num, by omega, by rw [dU e1]; exact dU own5, hb5⟩
     case measure => simp [intOf]; omega
    ·have e1 := dH (dU NN (by simp [hp]))
     have hd : decide (trim < s0) = false := decide_eq_false hp
     clear NY NN HC hp
     go_wp2_with fail
     go_quiet (fail)
     have own3 := dH (ApR.below (dU own2) (below_drewN (Below.refl _ _) nq))
     go_wp2
     go_roundw
     case rel => exact ⟨k + 1, by go_num, by omega, by rw [dU e1]; exact dU own3, below_drewN hb2 _⟩
     case measure => simp [intOf]; omega
  ·have e1 : k = sent.length := by omega
   subst e1
   have O := dH ((ApR.own elemSent (dU hown)).mono z0)
   clear hown HT CN X1
   go_wp2
   go_ret
   exact ⟨⟨_, rfl, dU O⟩, hB⟩
abbrev muLink : Go.Conc.Locks.MuLink := { lock := 145, unlock := 146, ilock := 194, iunlock := 195, lockSlow := 221, unlockSlow := 224, disable := 217, enable := 219, acquire := 220, relMerge := 222, cas32 := 218, add32 := 223, tMutex := 145, tIMutex := 143, tPMutex := 236, tPIMutex := 258, tPI32 := 260, tUP := 262, tNoCopy := 140, tU32 := 141 }
theorem muLib : Go.Conc.Locks.MuLib Tryz.prog muLink :=
 ⟨Tryz.func145, Tryz.func146, Tryz.func194, Tryz.func195, Tryz.func217, Tryz.func219, Tryz.func220, Tryz.func222, Tryz.func218, Tryz.func223, Tryz.underlying143, Tryz.runUnderlying143, Tryz.sizeOf143, Tryz.isAgg143, Tryz.zeroValue143, Tryz.underlying145, Tryz.runUnderlying145, Tryz.sizeOf145, Tryz.isAgg145, Tryz.zeroValue145, Tryz.underlying236, Tryz.runUnderlying236, Tryz.sizeOf236, Tryz.isAgg236, Tryz.zeroValue236, Tryz.underlying258, Tryz.runUnderlying258, Tryz.sizeOf258, Tryz.isAgg258, Tryz.zeroValue258, Tryz.underlying260, Tryz.runUnderlying260, Tryz.sizeOf260, Tryz.isAgg260, Tryz.zeroValue260, Tryz.underlying262, Tryz.runUnderlying262, Tryz.sizeOf262, Tryz.isAgg262, Tryz.zeroValue262, Tryz.underlying140, Tryz.runUnderlying140, Tryz.sizeOf140, Tryz.isAgg140, Tryz.zeroValue140, Tryz.underlying21, Tryz.runUnderlying21, Tryz.sizeOf21, Tryz.isAgg21, Tryz.zeroValue21, (by kernel_rfl)⟩
section
variable {w : World} {dT sT elem t : TypeId} {sz : Nat} {dp sp : Option Addr} {dLen dCap sLen sCap g off : Nat} {cur cs : List Value}
variable {ops : Array Oper} {rest : List Oper} {o : Oper} {a : Act} {Q : Exit → Act → World → Prop}
end
section
variable {α : Type} {T TS : TypeId} {z : Value} {sz bytes : Nat} {cl : α → List Value} {w w' : World} {base : Nat} {v : Value} {ms : List α}
variable {ops : Array Oper} {rest : List Oper} {o : Oper} {a : Act} {Q : Exit → Act → World → Prop}
end
end Go.Proofs.YtkiclbbialadlaaGreat
