/- Draws of bytes and numbers: l1Size, l2DrawBytes, DrawPutNum, DrawPutText. -/
import Derived.Test.YtgcdhifanhpagaaDrawB
import Derived.Test.YtgcdhifanhpagaaAppB
import Derived.Laws.BytesArg
import Derived.Laws.IdiomStrings
namespace Go.Proofs.Ytgcdhifanhpagaa
open Go.ChangeShapes Go.WideShapes Go.ChangeAt Go.RowKit
set_option linter.unusedVariables false

theorem l1Size_any (a : Option Addr) (len cap : Nat) (hl : len ≤ 9223372036854775807) (most : Nat) (h1 : 2 ≤ most) (h2 : most ≤ 1000000) (w : World) :
    Calls Try.prog 30 #[.slice a len cap, .int .i64 (most : Int)] w fun e w' => (∃ n : Nat, n ≤ most ∧ e = .returned (.int .i64 (n : Int))) ∧ w = w' := by
  by_cases h : (most : Int) < 2 + (len : Int) / 20
  · go_enter Try.func30, Try.ntmps30
    go_wp2
    go_ret
    exact ⟨⟨most, Nat.le_refl _, rfl⟩, rfl⟩
  · go_enter Try.func30, Try.ntmps30
    go_wp2
    go_ret
    exact ⟨⟨2 + len / 20, by omega, by go_num⟩, rfl⟩
theorem byte_of (x : Int) (h0 : 0 ≤ x) (h1 : x ≤ 255) : ((UInt8.ofNat x.toNat).toNat : Int) = x := by simp; omega
set_option maxHeartbeats 1000000 in
theorem l2DrawBytes_any (bk most : Nat) (h2 : most ≤ 1000000) (w : World) (hc : Cur w bk) :
    Calls Try.prog 29 #[.pointer (some ⟨bk, 0, none⟩), .int .i64 (most : Int)] w fun e w' => (∃ v, e = .returned v ∧ ∃ bs : List UInt8, bs.length ≤ most ∧ w'.ownsRow w.heap.size 5 1 v bs.length (bcells bs)) ∧ Cur w' bk ∧ Drawn bk w w' := by
  have hbk := hc.lt
  have hb0 : Below w.heap.size w (w.alloc (.cells #[] 5)) := (Below.refl _ _).alloc (Nat.le_refl _) _
  have hc0 := hc.below hb0
  go_enter Try.func29, Try.ntmps29
  go_wp2_with fail
  refine (l1Below_any bk (most + 1) (by omega) (by omega) _ hc0).mono ?_
  rintro e w1 ⟨⟨n, hn, rfl⟩, hc1, hd1⟩
  have hd1' : Drawn bk w w1 := (Drawn.of_below hb0).trans hd1
  have hown1 : w1.ownsRow w.heap.size 5 1 (.slice (some ⟨w.heap.size, 0, none⟩) 0 0) 0 (bcells []) := (World.ownsRow_made w #[] 0 (Nat.le_refl _) (by decide) (by simp)).kept hd1.row (.inr (by simp [Value.ownBlock]; omega))
  clear hb0 hc0 hd1 hc
  go_wp2
  go_loopw [5, 7] (fun o x wr => ∃ (k : Nat) (bs : List UInt8), x = .int .i64 (k : Int) ∧ k ≤ n ∧ bs.length = k ∧ wr.ownsRow w.heap.size 5 1 o bs.length (bcells bs) ∧ Hid (Cur wr bk) ∧ Hid (Drawn bk w wr)) (fun _ x _ => n - (intOf x).toNat)
  case atStart => exact ⟨0, [], rfl, Nat.zero_le _, rfl, hown1, hc1, hd1'⟩
  case round =>
    clear hown1 hc1 hd1'
    obtain ⟨k, bs, rfl, hk, hbl, hown, hcur, hdr⟩ := hrel
    have hlt := hown.lt
    by_cases hlt' : (k : Int) < (n : Int)
    · go_wp2_with fail
      refine (l1Byte_any bk _ hcur).mono ?_
      rintro e w2 ⟨⟨x, x0, x1, rfl⟩, hc2, hd2⟩
      have hown2 := hown.kept hd2.row (by
        cases hv : Value.ownBlock u5 with
        | none => exact .inl rfl
        | some g => exact .inr (by have := (hlt g hv).1; simp; omega))
      have hlt2 := hown2.lt
      have hd2' : Drawn bk w w2 := (dUnhide hdr).trans hd2
      have hx := byte_of x x0 x1
      have HX := dHide hx
      have hsz := hd2'.size
      clear hown hlt hcur hdr hd2 hx
      go_wp2_with (at_builtin; refine app8 _ rfl _ _ rfl w.heap.size _ bs rfl (hown2.alloc _) ⟨w2.heap.size, 0, none⟩ 1 1 [UInt8.ofNat x.toNat] rfl rfl (one_byte _ _ _ _ (dUnhide HX)) ?c1 ?c2 ?_)
      case c1 => simp; omega
      case c2 => simp; omega
      intro v' w3 hown3 hgrow
      have hb2 : Below w2.heap.size w2 (w2.alloc (.cells #[.int .u8 x] 5)) := (Below.refl _ _).alloc (Nat.le_refl _) _
      have hc3 : Hid (Cur w3 bk) := (hc2.below hb2).grown hgrow (fun g hg => by have := (hlt2 g hg).1; omega)
      have hd3 : Hid (Drawn bk w w3) := (hd2'.trans (Drawn.of_below hb2)).grown hgrow (fun g hg => (hlt2 g hg).1)
      have hl3 := dHide (show (bs ++ [UInt8.ofNat x.toNat]).length = k + 1 by simp; omega)
      clear hown2 hgrow hlt2 hd2' hb2 hc2 HX
      generalize bs ++ [UInt8.ofNat x.toNat] = bs' at *
      go_wp2
      go_roundw
      case rel => exact ⟨k + 1, bs', by go_num, by omega, hl3, (by rw [dUnhide hl3]; exact hown3), hc3, hd3⟩
      case measure => simp [intOf]; omega
    · go_wp2
      go_ret
      exact ⟨⟨_, rfl, bs, by omega, hown⟩, hcur, hdr⟩
theorem conv_own {w : World} {base : Nat} {v : Value} {bs : List UInt8} (h : w.ownsRow base 5 1 v bs.length (bcells bs)) : (convert 22 9 v).run Try.prog w = .ok (.string ⟨bs.toArray⟩) w := by
  rcases h.2 with ⟨rfl, hn⟩ | ⟨g, cap, cur, rfl, hb, hg, hnc, hcm, hsz, ht⟩
  · have : bs = [] := List.length_eq_zero_iff.1 hn
    subst this
    exact run_convert_bytes_nil w 22 5 Try.underlying22 Try.underlying5 0 0 9 Try.underlying9
  · refine run_convert_bytes_back (P := Try.prog) w 22 9 5 ⟨g, 0, none⟩ cap bs Try.underlying22 Try.underlying5 Try.underlying9 (fun j hj => ?_)
    exact h.cells rfl j _ (by simp [bcells, hj])
set_option maxHeartbeats 1000000 in
theorem drawPutNum_any (a : Option Addr) (len cap : Nat) (w : World) (hr : Row8 w a len) :
    Calls Try.prog 9 #[.slice a len cap] w fun e w' => (∃ x, I64 x ∧ e = .returned (.int .i64 x)) ∧ Below w.heap.size w w' := by
  go_enter Try.func9, Try.ntmps9
  go_wp2_with fail
  refine (l1New_any a len cap w hr).mono ?_
  rintro e w1 ⟨bk, rfl, hbk, hc1, hb1⟩
  go_wp2_with fail
  refine (l1Below_any bk 100000 (by omega) (by omega) w1 hc1).mono ?_
  rintro e w2 ⟨⟨y, hy, rfl⟩, hc2, hd2⟩
  go_wp2_with fail
  refine (pick_new hc2 [0, 1, 127, 128, 16383, 16384, -1, 9223372036854775807, (y : Int)] _ (by simp) (by simp) _).mono ?_
  rintro e w4 ⟨⟨v, hv, rfl⟩, hc4, hd4⟩
  have hI : I64 v := by
    simp only [List.mem_cons, List.mem_nil_iff, or_false] at hv
    unfold I64; omega
  clear hv
  go_wp2
  go_ret
  exact ⟨⟨v, hI, rfl⟩, (hd2.trans hd4).below hb1 hb1.size hbk⟩
set_option maxHeartbeats 1000000 in
theorem drawPutText_any (a : Option Addr) (len cap : Nat) (w : World) (hr : Row8 w a len) :
    Calls Try.prog 13 #[.slice a len cap] w fun e w' => (∃ t : ByteArray, t.size ≤ 40 ∧ e = .returned (.string t)) ∧ Below w.heap.size w w' := by
  go_enter Try.func13, Try.ntmps13
  go_wp2_with fail
  refine (l1New_any a len cap w hr).mono ?_
  rintro e w1 ⟨bk, rfl, hbk, hc1, hb1⟩
  go_wp2_with fail
  refine (l1Size_any a len cap hr.1 40 (by omega) (by omega) w1).mono ?_
  rintro e w2 ⟨⟨n, hn, rfl⟩, rfl⟩
  go_wp2_with fail
  refine (l2DrawBytes_any bk n (by omega) w1 hc1).mono ?_
  rintro e w3 ⟨⟨v, rfl, bs, hbs, hown⟩, hc3, hd3⟩
  have hcv := conv_own hown
  go_wp2
  go_ret
  refine ⟨⟨⟨bs.toArray⟩, ?_, rfl⟩, hd3.below hb1 hb1.size hbk⟩
  show bs.toArray.size ≤ 40
  simp; omega
end Go.Proofs.Ytgcdhifanhpagaa
