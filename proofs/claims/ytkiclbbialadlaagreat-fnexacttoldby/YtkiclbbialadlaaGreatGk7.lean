/- Several texts in one: LgB, LgC. -/
import Derived.Test.YtkiclbbialadlaaGreatGk4
import Derived.Conc.MuLone
import Derived.Deep.RegionLaw
import Derived.Deep.RegionHeld3
import Derived.Laws.IdiomCopy
import Derived.Lib.SliceRun
namespace Go.Proofs.YtkiclbbialadlaaGreat
open Go.ChangeShapes Go.WideShapes Go.ChangeAt Go.RowKit
set_option linter.unusedSimpArgs false
set_option linter.unusedVariables false
set_option maxRecDepth 100000
theorem cloneSe_any (v : Value) (rs : List Se) (w : World) (hv : Rw 3 Se.cl w v rs) (hl : rs.length ≤ 1048576) :
  Calls Tryz.prog 147 #[v] w fun e w' => (∃ u, e = .returned u ∧ ApR 68 3 Se.cl w' w.heap.size u rs) ∧ Below w.heap.size w w' := by
 have HV := dH fun W (hb : Below w.heap.size w W) => hv.below hb
 have hv' := hv
 obtain ⟨-, a, cap, rfl, hcap, hc⟩ := hv'
 cases a with
 | none =>
  have e0 : rs = [] := by
   rcases hc with h | ⟨b, off, h, -⟩
   ·exact h
   ·cases h
  subst e0
  have hnil : ∀ w, (binOp .eql 36 (.slice none 0 cap) (.slice none 0 0)).run Tryz.prog w = .ok (.bool true) w := fun w => Go.Lib.run_eql_slice_nil w 36 68 none _ _ 0 0 Tryz.underlying36
  have O : ApR 68 3 Se.cl w w.heap.size (.slice none 0 0) ([] : List Se) := .inl ⟨rfl, none, rfl⟩
  clear hv HV hc
  simp only [List.length_nil]
  go_enter Tryz.func147, Tryz.ntmps147
  go_wp2
  go_ret
  exact ⟨⟨_, rfl, O⟩, Below.refl _ _⟩
 | some ad =>
  have B1 := (Below.refl w.heap.size w).alloc (Nat.le_refl _) (.cells #[] 68)
  have hN := dU HV _ B1
  have hnil : ∀ w, (binOp .eql 36 (.slice (some ad) rs.length cap) (.slice none 0 0)).run Tryz.prog w = .ok (.bool false) w := fun w => Go.Lib.run_eql_slice_nil w 36 68 (some ad) _ _ 0 0 Tryz.underlying36
  clear hv HV hc
  go_enter Tryz.func147, Tryz.ntmps147
  go_wp2_with (at_builtin; refine wp_cpR elemSent rfl _ _ rfl _ rfl _ rs rfl hN (by omega) ?_; intro u w2 O2 b2)
  go_ret
  exact ⟨⟨_, rfl, O2.mono B1.size⟩, bT B1 b2⟩
def Chr (w : World) (lb : Nat) (L : List Se) : Prop := ∃ v, BxZ w lb lb [.int .i32 0, .int .u32 0, v] ∧ ApR 68 3 Se.cl w (lb + 1) v L
theorem Chr.below {w w' : World} {lb : Nat} {L : List Se} (h : Chr w lb L) (hb : Below w.heap.size w w') : Chr w' lb L := by
 obtain ⟨v, h1, h2⟩ := h
 exact ⟨v, h1.below hb, h2.below hb⟩
set_option maxHeartbeats 8000000 in
theorem tell_any (lb : Nat) (L : List Se) (s : Se) (w : World) (hx : Chr w lb L) (hl : L.length ≤ 1048576) :
  Calls Tryz.prog 83 #[.pointer (some ⟨lb, 0, none⟩), s.val] w fun e w' => e = .returned (.tuple #[]) ∧ Chr w' lb (L ++ [s]) ∧ Below lb w w' := by
 obtain ⟨v, X0, O0⟩ := hx
 obtain ⟨s0, s1, s2⟩ := s
 unfold Se.val
 simp only
 have hlb := X0.lt
 have bA := (Below.refl w.heap.size w).alloc (Nat.le_refl _) (.cells #[.int .i64 s0, .string s1, .bool s2] 68)
 have BL := (Below.refl lb w).alloc (Nat.le_of_lt hlb) (.cells #[.int .i64 s0, .string s1, .bool s2] 68)
 have X1 := X0.below bA
 have O1 := O0.below bA
 have S1 := Bx.new w [.int .i64 s0, .string s1, .bool s2] 68
 have z1 : w.heap.size < (w.alloc (.cells #[.int .i64 s0, .string s1, .bool s2] 68)).heap.size := by simp
 clear X0 O0 bA
 go_enter_defers Tryz.func83, Tryz.ntmps83
 go_wp2_with fail
 generalize hsb : w.heap.size = sb at *
 generalize w.alloc (.cells #[.int .i64 s0, .string s1, .bool s2] 68) = w1 at *
 refine (Go.MuLone.lock_free muLib ⟨lb, 0, none⟩ w1 (X1.2 0 _ rfl).1 (X1.2 0 _ rfl).2).mono ?_
 rintro e w2' ⟨rfl, rfl⟩
 have X2 : BxZ (w1.setCell ⟨lb, 0, none⟩ (.int .i32 1)) lb lb [.int .i32 1, .int .u32 0, v] := X1.put 0 (.int .i32 1)
 have O2 := ApR.far elemSent O1 (b := lb) (o' := 0) (by omega) (.int .i32 1)
 have S2 : Bx (w1.setCell ⟨lb, 0, none⟩ (.int .i32 1)) sb [.int .i64 s0, .string s1, .bool s2] := fun i u hu => sO (S1 i u hu) (.inl (by omega))
 have BL2 := BL.setCell (p := ⟨lb, 0, none⟩) (Nat.le_refl _) (.int .i32 1)
 have z2 : sb < (w1.setCell ⟨lb, 0, none⟩ (.int .i32 1)).heap.size := by simpa using z1
 clear X1 O1 S1 BL z1 hsb
 generalize w1.setCell ⟨lb, 0, none⟩ (.int .i32 1) = w2 at *
 replace X2 := dH X2
 replace O2 := dH O2
 replace BL2 := dH BL2
 obtain ⟨x2, f2⟩ := (dU X2).2 2 _ rfl
 obtain ⟨y0, y1, y2⟩ : _ ∧ _ ∧ _ := ⟨S2 0 _ rfl, S2 1 _ rfl, S2 2 _ rfl⟩
 go_wp2_with fail
 refine wp_region_noPanic ?_
 have n1 : (L.length + [(⟨s0, s1, s2⟩ : Se)].length) * 32 ≤ 140737488355328 := by simp only [List.length_singleton]; omega
 have n2 : L.length + [(⟨s0, s1, s2⟩ : Se)].length ≤ 9223372036854775807 := by simp only [List.length_singleton]; omega
 have n3 : lb + 1 ≤ (w2.alloc (.cells #[.int .i64 s0, .string s1, .bool s2] 68)).heap.size := by simp; omega
 have bA := (Below.refl w2.heap.size w2).alloc (Nat.le_refl _) (.cells #[.int .i64 s0, .string s1, .bool s2] 68)
 have OA := dH (ApR.below (dU O2) bA)
 have XA := dH ((dU X2).below bA)
 have BA := dH ((dU BL2).alloc (by omega) (.cells #[.int .i64 s0, .string s1, .bool s2] 68))
 have RE := dH (rwSe_one w2 ⟨s0, s1, s2⟩ 68 1 (by omega))
 obtain ⟨x3, f3⟩ := (dU XA).2 2 _ rfl
 clear bA X2 O2 BL2
 go_region_law (
  first
  | refine step_apR elemSent rfl _ _ rfl (lb + 1) v L rfl (show ApR 68 3 Se.cl (w2.alloc (.cells #[.int .i64 s0, .string s1, .bool s2] 68)).drew (lb + 1) v L from dU OA) _ [⟨s0, s1, s2⟩] rfl (show Rw 3 Se.cl (w2.alloc (.cells #[.int .i64 s0, .string s1, .bool s2] 68)).drew _ _ from dU RE) n1 n2 n3 ?_
  | refine step_apR elemSent rfl _ _ rfl (lb + 1) v L rfl (show ApR 68 3 Se.cl (w2.drew.alloc (.cells #[.int .i64 s0, .string s1, .bool s2] 68)) (lb + 1) v L from dU OA) _ [⟨s0, s1, s2⟩] rfl (show Rw 3 Se.cl (w2.drew.alloc (.cells #[.int .i64 s0, .string s1, .bool s2] 68)) _ _ from dU RE) n1 n2 n3 ?_
  intro v' w4 O4 g4 t4
  obtain ⟨ua, uc, rfl⟩ := ApR.slice elemSent O4
  replace O4 := dH O4
  have tlb : touch v ≠ some lb := fun e => by have := (ApR.touched elemSent (dU OA) e).1; omega
  have X4 := dH (BxZ.grown (show BxZ (w2.alloc (.cells #[.int .i64 s0, .string s1, .bool s2] 68)).drew lb lb [.int .i32 1, .int .u32 0, v] from dU XA) g4 tlb)
  have B4 := dH (apR_after (w0 := w) (ls := L) elemSent (show ApR 68 3 Se.cl (w2.alloc (.cells #[.int .i64 s0, .string s1, .bool s2] 68)).drew (lb + 1) v L from dU OA) (dU BA).drew (by simp; omega) (by omega) g4)
  obtain ⟨x4, f4⟩ := (dU X4).2 2 _ rfl
  clear OA XA BA RE g4 t4 tlb)
 all_goals refine NoPanic.normal ?_
 all_goals
  rw [List.length_append, List.length_singleton] at O4
  have X5 : BxZ (w4.setCell ⟨lb, 2, none⟩ (.slice ua (L.length + 1) uc)) lb lb [.int .i32 1, .int .u32 0, .slice ua (L.length + 1) uc] := (dU X4).put 2 (.slice ua (L.length + 1) uc)
  have O5 := ApR.far elemSent (dU O4) (b := lb) (o' := 2) (by omega) (.slice ua (L.length + 1) uc)
  have B5 := (dU B4).setCell (p := ⟨lb, 2, none⟩) (Nat.le_refl _) (.slice ua (L.length + 1) uc)
  clear x4 f4 X4 O4 B4 x3 f3 y0 y1 y2 S2
  generalize w4.setCell ⟨lb, 2, none⟩ (.slice ua (L.length + 1) uc) = w5 at *
  refine leaves_cons (f := 146) (args := #[.pointer (some ⟨lb, 0, none⟩)]) (by simp) (by simp [go_sem]) ?_
  refine (Go.MuLone.unlock_deferred muLib ⟨lb, 0, none⟩ .returning w5 (X5.2 0 _ rfl).1 (X5.2 0 _ rfl).2).mono ?_
  rintro e u' w'' ⟨rfl, rfl, rfl⟩
  exact ⟨_, results_none rfl _ _ _, rfl, ⟨_, X5.put 0 (.int .i32 0), ApR.far elemSent O5 (b := lb) (o' := 0) (by omega) (.int .i32 0)⟩, B5.setCell (p := ⟨lb, 0, none⟩) (Nat.le_refl _) (.int .i32 0)⟩
set_option maxHeartbeats 8000000 in
theorem all_any (lb : Nat) (L : List Se) (w : World) (hx : Chr w lb L) (hl : L.length ≤ 1048576) :
  Calls Tryz.prog 84 #[.pointer (some ⟨lb, 0, none⟩)] w fun e w' => (∃ o, e = .returned o ∧ ApR 68 3 Se.cl w' w.heap.size o L) ∧ Below lb w w' := by
 obtain ⟨v, X0, O0⟩ := hx
 have hlb := X0.lt
 go_enter_defers Tryz.func84, Tryz.ntmps84
 go_wp2_with fail
 refine (Go.MuLone.lock_free muLib ⟨lb, 0, none⟩ w (X0.2 0 _ rfl).1 (X0.2 0 _ rfl).2).mono ?_
 rintro e w2' ⟨rfl, rfl⟩
 have X2 : BxZ (w.setCell ⟨lb, 0, none⟩ (.int .i32 1)) lb lb [.int .i32 1, .int .u32 0, v] := X0.put 0 (.int .i32 1)
 have O2 := ApR.far elemSent O0 (b := lb) (o' := 0) (by omega) (.int .i32 1)
 have B2 := (Below.refl lb w).setCell (p := ⟨lb, 0, none⟩) (Nat.le_refl _) (.int .i32 1)
 have z2 : (w.setCell ⟨lb, 0, none⟩ (.int .i32 1)).heap.size = w.heap.size := by simp
 generalize w.setCell ⟨lb, 0, none⟩ (.int .i32 1) = w2 at *
 have C2 := dH (cloneSe_any v L w2 (ApR.own elemSent O2).rw hl)
 rw [z2] at C2
 obtain ⟨x2, f2⟩ := X2.2 2 _ rfl
 replace X2 := dH X2
 replace B2 := dH B2
 have Z2 := dH z2
 clear X0 O0 O2 z2
 go_wp2_with fail
 refine (dU C2).mono ?_
 rintro e w3 ⟨⟨o, rfl, O3⟩, b3⟩
 rw [← dU Z2] at b3
 have X3 := (dU X2).below b3
 have B3 := (dU B2).trans (b3.mono (by have := dU Z2; omega))
 clear C2 X2 B2 x2 f2
 go_wp2
 refine leaves_cons (f := 146) (args := #[.pointer (some ⟨lb, 0, none⟩)]) (by simp) (by simp [go_sem]) ?_
 refine (Go.MuLone.unlock_deferred muLib ⟨lb, 0, none⟩ .returning w3 (X3.2 0 _ rfl).1 (X3.2 0 _ rfl).2).mono ?_
 rintro e u' w'' ⟨rfl, rfl, rfl⟩
 exact ⟨_, results_tmp (t := 2) rfl _ _ _, ⟨o, rfl, ApR.far elemSent O3 (b := lb) (o' := 0) (by omega) (.int .i32 0)⟩, B3.setCell (p := ⟨lb, 0, none⟩) (Nat.le_refl _) (.int .i32 0)⟩
set_option maxHeartbeats 8000000 in
theorem chronicled_any (n F : Nat) (bs : Array Value) (g : Nat → Se × Bool) (w : World) (hF : ∀ args w, (callFunc F args).run Tryz.prog w = .ok (.enter F args) w) (hn : n ≤ 1048576)
  (hg : ∀ W, Below w.heap.size w W → ∀ k, k < n → Calls Tryz.prog F (bs.push (.int .i64 (k : Int))) W fun e w' => e = .returned (.tuple #[(g k).1.val, .bool (g k).2]) ∧ Below W.heap.size W w') :
  Calls Tryz.prog 37 #[.int .i64 (n : Int), .func (.func F) bs #[]] w fun e w' => (∃ o, e = .returned o ∧ ApR 68 3 Se.cl w' w.heap.size o (chrL g n)) ∧ Below w.heap.size w w' := by
 have HG := dH hg
 have ba : ∀ (w : World) o, Below w.heap.size w (w.alloc o) := fun w o => (Below.refl _ _).alloc (Nat.le_refl _) o
 have C0 : Hid (Chr (w.alloc (.cells #[.int .i32 0, .int .u32 0, .slice none 0 0] 147)) w.heap.size (chrL g 0)) := ⟨.slice none 0 0, BxZ.new w [.int .i32 0, .int .u32 0, .slice none 0 0] 147 (Nat.le_refl _), .inl ⟨rfl, none, rfl⟩⟩
 have B0 := dH (ba w (.cells #[.int .i32 0, .int .u32 0, .slice none 0 0] 147))
 clear hg
 go_enter Tryz.func37, Tryz.ntmps37
 go_wp2
 generalize w.alloc (.cells #[.int .i32 0, .int .u32 0, .slice none 0 0] 147) = w0 at *
 go_loopw [10] (fun x wr => ∃ k : Nat, x = .int .i64 (k : Int) ∧ k ≤ n ∧ Hid (Chr wr w.heap.size (chrL g k)) ∧ Hid (Below w.heap.size w wr)) (fun x _ => n - (intOf x).toNat)
 case atStart => exact ⟨0, rfl, Nat.zero_le _, dU C0, dU B0⟩
 case round =>
  obtain ⟨k, rfl, hk, hc, hb⟩ := hrel
  by_cases hlt : (k : Int) < (n : Int)
  ·have hkl : k < n := by omega
   have CG := dH (dU HG wr (dU hb) k hkl)
   have hlen := chrL_len g k
   have NY := dH (chrL_yes (g := g) (k := k))
   have NN := dH (chrL_no (g := g) (k := k))
   generalize hLL : chrL g k = LL at *
   generalize g k = q at *
   obtain ⟨⟨s0, s1, s2⟩, b⟩ := q
   unfold Se.val at CG
   simp only at CG NY NN
   clear hLL
   go_wp2_with fail
   refine (dU CG).mono ?_
   rintro e w2 ⟨rfl, b2⟩
   have b3 := bT b2 (ba w2 (.cells #[.int .i64 s0, .string s1, .bool s2] 68))
   have C3 := dH ((dU hc).below b3)
   have B3 := dH (bT (dU hb) b3)
   have S3 := Bx.new w2 [.int .i64 s0, .string s1, .bool s2] 68
   clear CG hc hb b2 b3
   cases b with
   | false =>
    have e1 := dH (dU NN rfl)
    clear NY NN S3
    go_wp2
    go_roundw
    case rel => exact ⟨k + 1, by go_num, by omega, by rw [dU e1]; exact dU C3, dU B3⟩
    case measure => simp [intOf]; omega
   | true =>
    have e1 := dH (dU NY rfl)
    have c0 := S3 0 _ rfl
    have c1 := S3 1 _ rfl
    have c2 := S3 2 _ rfl
    have CT := dH (tell_any w.heap.size LL ⟨s0, s1, s2⟩ _ (dU C3) (by omega))
    unfold Se.val at CT
    simp only at CT
    clear NY NN S3 C3
    go_wp2_with fail
    refine (dU CT).mono ?_
    rintro e w4 ⟨rfl, C4, b4⟩
    replace C4 := dH C4
    have B4 := dH ((dU B3).trans b4)
    clear CT B3 b4 c0 c1 c2
    go_wp2
    go_roundw
    case rel => exact ⟨k + 1, by go_num, by omega, by rw [dU e1]; exact dU C4, dU B4⟩
    case measure => simp [intOf]; omega
  ·have e1 : k = n := by omega
   subst e1
   have hlen := chrL_len g k
   have CA := dH (all_any w.heap.size (chrL g k) wr (dU hc) (by omega))
   have z : w.heap.size ≤ wr.heap.size := (dU hb).size
   clear hc HG C0 hlen
   go_wp2_with fail
   refine (dU CA).mono ?_
   rintro e w4 ⟨⟨o, rfl, O4⟩, b4⟩
   have R := dH (And.intro (ApR.mono O4 z) ((dU hb).trans b4))
   clear CA O4 b4 hb
   go_wp2
   go_ret
   exact ⟨⟨_, rfl, (dU R).1⟩, (dU R).2⟩
set_option maxHeartbeats 8000000 in
theorem lasting_any (c0 c1 c2 c3 c4 c6 c7 c8 c10 : Value) (trim : Int) (ta : Option Addr) (tc : Nat) (sent : List Se) (k : Nat) (hk : k < sent.length) (w : World) (ht : RdSentS (.slice ta sent.length tc) sent w) :
  Calls Tryz.prog 38 #[.agg #[c0, c1, c2, c3, c4, .int .i64 trim, c6, c7, c8, .slice ta sent.length tc, c10], .int .i64 (k : Int)] w fun e w' => e = .returned (.tuple #[(lastG trim sent k).1.val, .bool (lastG trim sent k).2]) ∧ Below w.heap.size w w' := by
 have ba : ∀ (w : World) o, Below w.heap.size w (w.alloc o) := fun w o => (Below.refl _ _).alloc (Nat.le_refl _) o
 rw [lastG_at trim sent k hk]
 have b1 := ba w (.cells #[c0, c1, c2, c3, c4, .int .i64 trim, c6, c7, c8, .slice ta sent.length tc, c10] 47)
 have b2 := bT b1 (ba _ (.cells #[.int .i64 0, .string ⟨#[]⟩, .bool false] 68))
 have e1 : (w.alloc (.cells #[c0, c1, c2, c3, c4, .int .i64 trim, c6, c7, c8, .slice ta sent.length tc, c10] 47)).heap.size = w.heap.size + 1 := by simp
 have e2 : ((w.alloc (.cells #[c0, c1, c2, c3, c4, .int .i64 trim, c6, c7, c8, .slice ta sent.length tc, c10] 47)).alloc (.cells #[.int .i64 0, .string ⟨#[]⟩, .bool false] 68)).heap.size = w.heap.size + 1 + 1 := by simp
 have XW := (Bx.new w [c0, c1, c2, c3, c4, .int .i64 trim, c6, c7, c8, .slice ta sent.length tc, c10] 47).below (ba _ (.cells #[.int .i64 0, .string ⟨#[]⟩, .bool false] 68))
 have XR := BxZ.new (B := w.heap.size) (w.alloc (.cells #[c0, c1, c2, c3, c4, .int .i64 trim, c6, c7, c8, .slice ta sent.length tc, c10] 47)) [.int .i64 0, .string ⟨#[]⟩, .bool false] 68 (by omega)
 rw [e1] at XR
 have HT := ht.below b2
 obtain ⟨b, off, rfl, he⟩ := Rw.atSe HT hk
 obtain ⟨g0, g1, g2⟩ := he k hk
 clear he HT ht e1
 generalize sent[k] = s at *
 obtain ⟨s0, s1, s2⟩ := s
 unfold Se.val
 simp only at *
 go_enter Tryz.func38, Tryz.ntmps38
 go_wp2_with fail
 generalize (w.alloc (.cells #[c0, c1, c2, c3, c4, .int .i64 trim, c6, c7, c8, .slice (some ⟨b, off, none⟩) sent.length tc, c10] 47)).alloc (.cells #[.int .i64 0, .string ⟨#[]⟩, .bool false] 68) = w2 at *
 have b3 := ba w2 (.cells #[.int .i64 s0, .string s1, .bool s2] 68)
 have XS := Bx.new w2 [.int .i64 s0, .string s1, .bool s2] 68
 rw [e2] at XS
 have X3 := XW.below b3
 have R3 := dH (XR.below b3)
 have B3 := dH (bT b2 b3)
 clear XW XR b1 b2 b3 g0 g1 g2 e2
 generalize w2.alloc (.cells #[.int .i64 s0, .string s1, .bool s2] 68) = w3 at *
 have x5 := X3 5 _ rfl
 obtain ⟨y0, y1, y2⟩ : _ ∧ _ ∧ _ := ⟨XS 0 _ rfl, XS 1 _ rfl, XS 2 _ rfl⟩
 obtain ⟨⟨r0, f0⟩, ⟨r1, f1⟩, ⟨r2, f2⟩⟩ : (_ ∧ _) ∧ (_ ∧ _) ∧ (_ ∧ _) := ⟨(dU R3).2 0 _ rfl, (dU R3).2 1 _ rfl, (dU R3).2 2 _ rfl⟩
 have Y : Hid (BxZ (((w3.setCell ⟨w.heap.size + 1, 0, none⟩ (.int .i64 s0)).setCell ⟨w.heap.size + 1, 1, none⟩ (.string s1)).setCell ⟨w.heap.size + 1, 2, none⟩ (.bool s2)).drew w.heap.size (w.heap.size + 1) [.int .i64 s0, .string s1, .bool s2]) := (((dU R3).put 0 (.int .i64 s0)).put 1 (.string s1)).put 2 (.bool s2)
 have D : Hid (Below w.heap.size w (((w3.setCell ⟨w.heap.size + 1, 0, none⟩ (.int .i64 s0)).setCell ⟨w.heap.size + 1, 1, none⟩ (.string s1)).setCell ⟨w.heap.size + 1, 2, none⟩ (.bool s2)).drew) := ((((dU B3).setCell (p := ⟨w.heap.size + 1, 0, none⟩) (by simp only; omega) (.int .i64 s0)).setCell (p := ⟨w.heap.size + 1, 1, none⟩) (by simp only; omega) (.string s1)).setCell (p := ⟨w.heap.size + 1, 2, none⟩) (by simp only; omega) (.bool s2)).drew
 clear X3 XS
 cases s2 with
 | false =>
  go_region
  have q0 := ((dU Y).2 0 _ rfl).1
  have q1 := ((dU Y).2 1 _ rfl).1
  have q2 := ((dU Y).2 2 _ rfl).1
  clear Y r0 r1 r2 f0 f1 f2 R3 B3 x5 y0 y1 y2
  generalize (((w3.setCell ⟨w.heap.size + 1, 0, none⟩ (.int .i64 s0)).setCell ⟨w.heap.size + 1, 1, none⟩ (.string s1)).setCell ⟨w.heap.size + 1, 2, none⟩ (.bool false)).drew = V at *
  go_wp2
  refine bodyPost_ret (v := .tuple #[.agg #[.int .i64 s0, .string s1, .bool false], .bool false]) (by simp [results, Tryz.results38, go_sem, q0, q1, q2]) rfl ?_
  first | exact dU D | exact ⟨by simp, dU D⟩
 | true =>
  by_cases hp : trim < s0
  ·have hd : decide (trim < s0) = true := decide_eq_true hp
   go_region
   have q0 := ((dU Y).2 0 _ rfl).1
   have q1 := ((dU Y).2 1 _ rfl).1
   have q2 := ((dU Y).2 2 _ rfl).1
   clear Y r0 r1 r2 f0 f1 f2 R3 B3 x5 y0 y1 y2
   generalize (((w3.setCell ⟨w.heap.size + 1, 0, none⟩ (.int .i64 s0)).setCell ⟨w.heap.size + 1, 1, none⟩ (.string s1)).setCell ⟨w.heap.size + 1, 2, none⟩ (.bool true)).drew = V at *
   go_wp2
   refine bodyPost_ret (v := .tuple #[.agg #[.int .i64 s0, .string s1, .bool true], .bool true]) (by simp [results, Tryz.results38, go_sem, q0, q1, q2]) rfl ?_
   first | exact dU D | exact ⟨by simp [hp], dU D⟩
  ·have hd : decide (trim < s0) = false := decide_eq_false hp
   go_region
   have q0 := ((dU Y).2 0 _ rfl).1
   have q1 := ((dU Y).2 1 _ rfl).1
   have q2 := ((dU Y).2 2 _ rfl).1
   clear Y r0 r1 r2 f0 f1 f2 R3 B3 x5 y0 y1 y2
   generalize (((w3.setCell ⟨w.heap.size + 1, 0, none⟩ (.int .i64 s0)).setCell ⟨w.heap.size + 1, 1, none⟩ (.string s1)).setCell ⟨w.heap.size + 1, 2, none⟩ (.bool true)).drew = V at *
   go_wp2
   refine bodyPost_ret (v := .tuple #[.agg #[.int .i64 s0, .string s1, .bool true], .bool false]) (by simp [results, Tryz.results38, go_sem, q0, q1, q2]) rfl ?_
   first | exact dU D | exact ⟨by simp [hp], dU D⟩
set_option maxHeartbeats 8000000 in
theorem implLog_any (v : Value) (m : Wo) (w : World) (ok : okWorld m) (hs : sizWorld m ≤ 1048576) (hv : RdWorld v m w) :
  Calls Tryz.prog 9 #[v] w fun e w' => (∃ o, e = .returned o ∧ OwnRw 3 Se.cl w' w.heap.size o (logW m)) ∧ Below w.heap.size w w' := by
 have CW := dH fun W (hb : Below w.heap.size w W) => implWorldOk_any v m W ok hs (hv.below hb)
 obtain ⟨da, dc, sa, sc, la, lc, ea, ec, wa, wc, na, nc, ra, rc', ta, tc, rfl, -, -, -, -, -, -, -, hse⟩ := partsWorld hv
 have HT := dH fun W (hW : Below w.heap.size w W) => RdSentS.below hse hW
 obtain ⟨⟨ds, cop⟩, stores, lost, ⟨eras, trim⟩, writers, mends, readers, sent, torn⟩ := m
 have hsl : sent.length ≤ 1048576 := by unfold sizWorld sizSentS at hs; simp only at hs; omega
 simp only at *
 clear hv hs ok hse
 have HW : Hid (∀ R, (woP ⟨(ds, cop), stores, lost, ⟨eras, trim⟩, writers, mends, readers, sent, torn⟩ → R = chrL (lastG trim sent) sent.length) → (¬ woP ⟨(ds, cop), stores, lost, ⟨eras, trim⟩, writers, mends, readers, sent, torn⟩ → R = []) → logW ⟨(ds, cop), stores, lost, ⟨eras, trim⟩, writers, mends, readers, sent, torn⟩ = R) := fun R h1 h2 => by
  by_cases h : woP ⟨(ds, cop), stores, lost, ⟨eras, trim⟩, writers, mends, readers, sent, torn⟩
  ·rw [logW_yes h, h1 h]
  ·rw [logW_no h, h2 h]
 generalize logW ⟨(ds, cop), stores, lost, ⟨eras, trim⟩, writers, mends, readers, sent, torn⟩ = R at *
 have B0 : Below w.heap.size w (w.alloc (.cells #[.slice da ds.length dc, .int .i64 cop, .slice sa stores.length sc, .slice la lost.length lc, .slice ea eras.length ec, .int .i64 trim, .slice wa writers.length wc, .slice na mends.length nc, .slice ra readers.length rc', .slice ta sent.length tc, .bool torn] 47)) := (Below.refl _ _).alloc (Nat.le_refl _) _
 have X0 := Bx.new w [.slice da ds.length dc, .int .i64 cop, .slice sa stores.length sc, .slice la lost.length lc, .slice ea eras.length ec, .int .i64 trim, .slice wa writers.length wc, .slice na mends.length nc, .slice ra readers.length rc', .slice ta sent.length tc, .bool torn] 47
 by_cases hW : woP ⟨(ds, cop), stores, lost, ⟨eras, trim⟩, writers, mends, readers, sent, torn⟩
 case neg =>
  have CN := dH fun W hB => retB_no (dU CW W hB) hW
  have e1 := dU HW [] (fun h => absurd h hW) (fun _ => rfl)
  subst e1
  clear HW CW hW HT
  go_enter Tryz.func9, Tryz.ntmps9
  go_wp2_with fail
  generalize w.alloc (.cells #[.slice da ds.length dc, .int .i64 cop, .slice sa stores.length sc, .slice la lost.length lc, .slice ea eras.length ec, .int .i64 trim, .slice wa writers.length wc, .slice na mends.length nc, .slice ra readers.length rc', .slice ta sent.length tc, .bool torn] 47) = w0 at *
  refine (dU CN _ B0).mono ?_
  rintro e w2 ⟨rfl, bl2⟩
  have hB2 := dH (bT B0 bl2)
  clear bl2 CN
  go_wp2
  go_ret
  exact ⟨⟨_, rfl, OwnRw.nil _ _ _ _ (by omega)⟩, dU hB2⟩
 have CN := dH fun W hB => retB_yes (dU CW W hB) hW
 have e1 := dU HW _ (fun _ => rfl) (fun h => absurd hW h)
 subst e1
 clear HW CW hW
 go_enter Tryz.func9, Tryz.ntmps9
 go_wp2_with fail
 generalize w.alloc (.cells #[.slice da ds.length dc, .int .i64 cop, .slice sa stores.length sc, .slice la lost.length lc, .slice ea eras.length ec, .int .i64 trim, .slice wa writers.length wc, .slice na mends.length nc, .slice ra readers.length rc', .slice ta sent.length tc, .bool torn] 47) = w0 at *
 refine (dU CN _ B0).mono ?_
 rintro e w1 ⟨rfl, b1⟩
 have B1 := bT B0 b1
 have X1 := X0.below b1
 have q0 := X1 0 _ rfl; have q1 := X1 1 _ rfl; have q2 := X1 2 _ rfl; have q3 := X1 3 _ rfl; have q4 := X1 4 _ rfl; have q5 := X1 5 _ rfl; have q6 := X1 6 _ rfl; have q7 := X1 7 _ rfl; have q8 := X1 8 _ rfl; have q9 := X1 9 _ rfl; have q10 := X1 10 _ rfl
 have CL := dH (chronicled_any sent.length 38 #[.agg #[.slice da ds.length dc, .int .i64 cop, .slice sa stores.length sc, .slice la lost.length lc, .slice ea eras.length ec, .int .i64 trim, .slice wa writers.length wc, .slice na mends.length nc, .slice ra readers.length rc', .slice ta sent.length tc, .bool torn]] (lastG trim sent) w1 (by intro args w; rfl) hsl fun W hW k hk => lasting_any _ _ _ _ _ _ _ _ _ trim ta tc sent k hk W (dU HT W (bT B1 hW)))
 clear X0 X1 b1 B0 HT CN
 go_wp2_with fail
 refine (dU CL).mono ?_
 rintro e w3 ⟨⟨o, rfl, O3⟩, b3⟩
 have R := dH (And.intro ((ApR.own elemSent O3).mono B1.size) (bT B1 b3))
 clear CL O3 b3 B1 q0 q1 q2 q3 q4 q5 q6 q7 q8 q9 q10
 go_wp2
 go_ret
 exact ⟨⟨_, rfl, (dU R).1⟩, (dU R).2⟩
theorem logW_len {m : Wo} : (logW m).length ≤ m.sent.length := by
 by_cases h : woP m
 ·rw [logW_yes h]; exact chrL_len _ _
 ·rw [logW_no h]; exact Nat.zero_le _
theorem bothLogOf_ (m0 : Wo) (ok0 : okWorld m0) (hs0 : sizWorld m0 ≤ 1048576) : ∃ (R : List Se), cntSentS R ≤ 8388608 ∧ (∀ W v0, RdWorld v0 m0 W → Calls Tryz.prog 7 #[v0] W fun e w' => ∃ u, e = .returned u ∧ Sits (OwSentS W.heap.size w'.heap.size u R) W.heap.size w'.heap.size w' ∧ Below W.heap.size W w') ∧ (∀ W v0, RdWorld v0 m0 W → Calls Tryz.prog 9 #[v0] W fun e w' => ∃ u, e = .returned u ∧ Sits (OwSentS W.heap.size w'.heap.size u R) W.heap.size w'.heap.size w' ∧ Below W.heap.size W w') := by
 refine ⟨logW m0, ?_, fun W v0 h => (specLog_any v0 m0 W ok0 hs0 h).mono fun e w' ⟨⟨o, k1, k2⟩, k3⟩ => ⟨o, k1, sitsSentS k2, k3⟩, fun W v0 h => (implLog_any v0 m0 W ok0 hs0 h).mono fun e w' ⟨⟨o, k1, k2⟩, k3⟩ => ⟨o, k1, sitsSentS k2, k3⟩⟩
 unfold cntSentS
 have := logW_len (m := m0)
 unfold sizWorld sizSentS at hs0
 omega
end Go.Proofs.YtkiclbbialadlaaGreat
