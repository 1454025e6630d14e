/- Readers: spec's l10Copy, l10Nodes, l10Tell, ReaderOk, l10Best. -/
import Derived.Test.YtjkjmapibcfcdaaGreatGz22
import Derived.Test.YtjkjmapibcfcdaaGreatGz18
import Derived.Test.YtjkjmapibcfcdaaGreatGaT
import Derived.Deep.RegionHeld3
import Derived.Deep.DeepCutAuto
namespace Go.Proofs.YtjkjmapibcfcdaaGreat
open Go.ChangeShapes Go.WideShapes Go.ChangeAt Go.RowKit
set_option linter.unusedVariables false
set_option linter.unusedSimpArgs false
set_option maxRecDepth 100000

def ApV (w : World) (base : Nat) (v : Value) (ms : List Ev) : Prop := ApR 53 3 Ev.cl w base v ms
theorem rwV_one (w : World) (e : Ev) (T : TypeId) (c : Nat) (hc : 1 ≤ c ∧ c ≤ 9223372036854775807) : Rw 3 Ev.cl (w.alloc (.cells #[.int .i64 e.kind, .int .i64 e.pl, .string e.data] T)) (.slice (some ⟨w.heap.size, 0, none⟩) 1 c) [e] := by
 refine ⟨by simp, _, _, rfl, by simpa using hc, .inr ⟨w.heap.size, 0, rfl, fun i hi j u hu => ?_⟩⟩
 obtain rfl : i = 0 := by simp at hi; omega
 simp only [List.getElem_cons_zero, Ev.cl] at hu
 simpa using hu
def AnsV (w : World) (m : Rr) (e : Ending) (w' : World) : Prop := ∃ (a : Option Addr) (c : Nat), e = .returned (.agg #[.int .i64 m.epoch, .int .i64 m.off, .slice a m.out.length c]) ∧ ApV w' w.heap.size (.slice a m.out.length c) m.out ∧ Below w.heap.size w w'
set_option maxHeartbeats 4000000 in
theorem l10Copy_any (v : Value) (m : Rr) (w : World) (hv : RdReader v m w) (hl : m.out.length ≤ 1048576) :
  Calls Tryz.prog 53 #[v] w (AnsV w m) := by
 have ba : ∀ (w : World) o, Below w.heap.size w (w.alloc o) := fun w o => (Below.refl _ _).alloc (Nat.le_refl _) o
 obtain ⟨sv, rfl, h⟩ := hv
 have HV := dH fun W (hb : Below w.heap.size w W) => RdEventS.below h hb
 obtain ⟨a, cap, rfl, -⟩ := formEventS h
 have GO : Hid (∀ (W : World) (a : Option Addr) (c : Nat), ApV W w.heap.size (.slice a m.out.length c) m.out → Below w.heap.size w W → AnsV w m (.returned (.agg #[.int .i64 m.epoch, .int .i64 m.off, .slice a m.out.length c])) W) := fun W a c h1 h2 => ⟨a, c, rfl, h1, h2⟩
 generalize AnsV w m = Q at *
 generalize m.epoch = y0 at *
 generalize m.off = y1 at *
 generalize m.out = ms at *
 clear h
 have X0 := (BxZ.new (B := w.heap.size) w [.int .i64 y0, .int .i64 y1, .slice a ms.length cap] 45 (Nat.le_refl _)).below (bT (ba _ (.cells #[.int .i64 0, .int .i64 0, .slice none 0 0] 45)) (ba _ (.cells #[] 53)))
 have Y0 := (BxZ.new (B := w.heap.size) (w.alloc (.cells #[.int .i64 y0, .int .i64 y1, .slice a ms.length cap] 45)) [.int .i64 0, .int .i64 0, .slice none 0 0] 45 (by simp)).below (ba _ (.cells #[] 53))
 have B0 := bT (bT (ba w (.cells #[.int .i64 y0, .int .i64 y1, .slice a ms.length cap] 45)) (ba _ (.cells #[.int .i64 0, .int .i64 0, .slice none 0 0] 45))) (ba _ (.cells #[] 53))
 have e1 : (w.alloc (.cells #[.int .i64 y0, .int .i64 y1, .slice a ms.length cap] 45)).heap.size = w.heap.size + 1 := by simp
 have e2 : Hid ((((w.alloc (.cells #[.int .i64 y0, .int .i64 y1, .slice a ms.length cap] 45)).alloc (.cells #[.int .i64 0, .int .i64 0, .slice none 0 0] 45)).alloc (.cells #[] 53)).heap.size = w.heap.size + 3) := by simp [Hid]
 rw [e1] at Y0
 have hN := dU HV _ B0
 clear e1 HV
 go_enter Tryz.func53, Tryz.ntmps53
 go_wp2_with (
  at_builtin
  generalize hw3 : (((w.alloc (.cells #[.int .i64 y0, .int .i64 y1, .slice a ms.length cap] 45)).alloc (.cells #[.int .i64 0, .int .i64 0, .slice none 0 0] 45)).alloc (.cells #[] 53)) = w3 at *
  refine wp_cpR elemEvent rfl _ _ rfl _ rfl _ ms rfl hN (by omega) ?_
  intro u w4 O4 b4
  clear hw3
  obtain ⟨ua, uc, rfl⟩ := ApR.slice elemEvent O4
  have s3 := dU e2
  have HO4 := dH (O4.mono (show w.heap.size + 3 ≤ w3.heap.size by omega))
  have HX4 := dH (X0.below b4)
  have HY4 := dH (Y0.below b4)
  have HB4 := dH (bT B0 b4)
  obtain ⟨x0, f0⟩ := (dU HX4).2 0 _ rfl
  obtain ⟨x1, f1⟩ := (dU HX4).2 1 _ rfl
  obtain ⟨x2, f2⟩ := (dU HX4).2 2 _ rfl
  obtain ⟨z0, p0⟩ := (dU HY4).2 0 _ rfl
  obtain ⟨z1, p1⟩ := (dU HY4).2 1 _ rfl
  obtain ⟨z2, p2⟩ := (dU HY4).2 2 _ rfl
  clear O4 b4 X0 Y0 B0 hN e2)
 have YY := dH (((((dU HY4).far (b' := w.heap.size) (o := 2) (by omega) (.slice ua ms.length uc)).put 0 (.int .i64 y0)).put 1 (.int .i64 y1)).put 2 (.slice ua ms.length uc))
 have OO := dH (((((dU HO4).far elemEvent (b := w.heap.size) (o' := 2) (by omega) (.slice ua ms.length uc)).far elemEvent (b := w.heap.size + 1) (o' := 0) (by omega) (.int .i64 y0)).far elemEvent (b := w.heap.size + 1) (o' := 1) (by omega) (.int .i64 y1)).far elemEvent (b := w.heap.size + 1) (o' := 2) (by omega) (.slice ua ms.length uc))
 have BB := dH (((((dU HB4).setCell (p := ⟨w.heap.size, 2, none⟩) (by simp) (.slice ua ms.length uc)).setCell (p := ⟨w.heap.size + 1, 0, none⟩) (by simp) (.int .i64 y0)).setCell (p := ⟨w.heap.size + 1, 1, none⟩) (by simp) (.int .i64 y1)).setCell (p := ⟨w.heap.size + 1, 2, none⟩) (by simp) (.slice ua ms.length uc))
 generalize ((((w4.setCell ⟨w.heap.size, 2, none⟩ (.slice ua ms.length uc)).setCell ⟨w.heap.size + 1, 0, none⟩ (.int .i64 y0)).setCell ⟨w.heap.size + 1, 1, none⟩ (.int .i64 y1)).setCell ⟨w.heap.size + 1, 2, none⟩ (.slice ua ms.length uc)) = V at *
 have q0 := ((dU YY).2 0 _ rfl).1
 have q1 := ((dU YY).2 1 _ rfl).1
 have q2 := ((dU YY).2 2 _ rfl).1
 clear x0 x1 x2 z0 z1 z2 f0 f1 f2 p0 p1 p2
 refine bodyPost_ret (v := .agg #[.int .i64 y0, .int .i64 y1, .slice ua ms.length uc]) (by simp [results, Tryz.results53, go_sem, q0, q1, q2]) rfl (dU GO V _ _ ((dU OO).mono (by omega)) (dU BB))
set_option maxHeartbeats 4000000 in
theorem l10Nodes_any (sv v : Value) (ds : List Int) (cop : Int) (l : List Aw) (w : World) (hd : Ns w sv ds) (hv : RdAnswerS v l w) (hl : l.length ≤ 1048576) :
  Calls Tryz.prog 50 #[.agg #[sv, .int .i64 cop], v] w fun e w' => (∃ o b, e = .returned (.tuple #[o, .bool b]) ∧ OwnN w' w.heap.size o (l.map Aw.node) ∧ (b = true ↔ nodesP ds cop (l.map Aw.node))) ∧ Below w.heap.size w w' := by
 have ba : ∀ (w : World) o, Below w.heap.size w (w.alloc o) := fun w o => (Below.refl _ _).alloc (Nat.le_refl _) o
 have HV := dH fun W (hb : Below w.heap.size w W) => RdAnswerS.below hv hb
 have CN := dH fun W (hb : Below w.heap.size w W) (o : Value) (ho : Ns W o (l.map Aw.node)) => specNodes_any sv o ds (l.map Aw.node) cop W (hd.below hb) ho
 obtain ⟨-, ca, cc, rfl, -, -⟩ := hd
 obtain ⟨a, cap, rfl, -⟩ := formAnswerS hv
 have GO : Hid (∀ (W : World) (o : Value) (b : Bool), OwnN W w.heap.size o (l.map Aw.node) → (b = true ↔ nodesP ds cop (l.map Aw.node)) → Below w.heap.size w W → (∃ o' b', (Ending.returned (.tuple #[o, .bool b])) = .returned (.tuple #[o', .bool b']) ∧ OwnN W w.heap.size o' (l.map Aw.node) ∧ (b' = true ↔ nodesP ds cop (l.map Aw.node))) ∧ Below w.heap.size w W) := fun W o b h1 h2 h3 => ⟨⟨o, b, rfl, h1, h2⟩, h3⟩
 have X0 := dH ((Bx.new w [.slice ca ds.length cc, .int .i64 cop] 26).below (ba _ (.cells #[] 3)))
 have B0 := bT (ba w (.cells #[.slice ca ds.length cc, .int .i64 cop] 26)) (ba _ (.cells #[] 3))
 clear hv
 go_enter Tryz.func50, Tryz.ntmps50
 go_wp2
 go_loopw [6, 7] (fun o x wr => ∃ k : Nat, x = .int .i64 (k : Int) ∧ k ≤ l.length ∧ wr.ownsRow (w.heap.size + 1) 3 1 o ((l.take k).map Aw.node).length (ncells ((l.take k).map Aw.node)) ∧ Hid (Bx wr w.heap.size [.slice ca ds.length cc, .int .i64 cop]) ∧ w.heap.size + 1 ≤ wr.heap.size ∧ Below w.heap.size w wr) (fun _ x _ => l.length - (intOf x).toNat)
 case atStart => exact ⟨0, rfl, Nat.zero_le _, by
  have := World.ownsRow_made (e := 3) (size := 1) (base := w.heap.size + 1) (w.alloc (.cells #[.slice ca ds.length cc, .int .i64 cop] 26)) #[] 0 (by simp) (by decide) (by simp)
  simpa [ncells] using this, X0, by simp <;> omega, B0⟩
 case round =>
  obtain ⟨k, rfl, hk, hown, hX, hsz, hb⟩ := hrel
  clear X0 B0
  by_cases hlt : (k : Int) < (l.length : Int)
  ·have hkl : k < l.length := by omega
   obtain ⟨b, off, rfl, hc⟩ := (dU HV wr hb).atAw hkl
   obtain ⟨c1, -⟩ := hc k hkl
   have e1 : Hid ((l.take (k + 1)).map Aw.node = (l.take k).map Aw.node ++ [l[k].node]) := by rw [Hid, List.take_succ_eq_append_getElem hkl, List.map_append, List.map_cons, List.map_nil]
   have hlen : ((l.take k).map Aw.node).length ≤ 1048576 := by rw [List.length_map, List.length_take]; omega
   generalize l[k].node = x at *
   generalize (l.take k).map Aw.node = L at *
   have hlt' := hown.lt
   clear hc
   go_wp2_with (at_builtin; refine appN _ rfl _ _ rfl (w.heap.size + 1) _ L rfl (hown.alloc _) ⟨wr.heap.size, 0, none⟩ 1 1 [x] rfl rfl (one_int _ _ _) ?c3 ?c4 ?_)
   case c3 => simp; omega
   case c4 => simp; omega
   intro v' w2 hown' hgrow
   have hb2 : Below w.heap.size w w2 := (hb.alloc hb.size _).grown hgrow (by have := hb.size; simp; omega) (fun k hk => by have := (hlt' k hk).1; omega)
   have hX2 := dH (((dU hX).below (ba wr _)).grown hgrow (fun e => by have := (hlt' _ e).1; omega))
   have hs2 : w.heap.size + 1 ≤ w2.heap.size := by have := hgrow.size; simp at this; omega
   have hown2 := own_lenN hown'
   clear hown hown' hgrow hb hlt' c1 hX
   go_wp2
   go_roundw
   case rel => exact ⟨k + 1, by go_num, by omega, by rw [dU e1]; exact hown2, hX2, hs2, hb2⟩
   case measure => simp [intOf]; omega
  ·have e1 : l.take k = l := List.take_of_length_le (by omega)
   rw [e1] at hown
   have O := (ownN_of_row hown).mono (show w.heap.size ≤ w.heap.size + 1 by omega)
   have CN1 := dH (dU CN wr hb _ O.bs)
   have HO := dH fun W (hB : Below wr.heap.size wr W) => O.below hB
   have x0 := dU hX 0 _ rfl
   have x1 := dU hX 1 _ rfl
   clear O CN HV hown e1
   go_wp2_with fail
   refine (dU CN1).mono ?_
   rintro e w1 ⟨⟨b1, rfl, h1⟩, bl1⟩
   have G := dH (dU GO w1 _ b1 (dU HO w1 bl1) h1 (bT hb bl1))
   clear GO h1 CN1 x0 x1
   go_wp2_with fail
   exact bodyPost_ret (v := .tuple #[_, .bool b1]) (by simp [results, Tryz.results50, go_sem]) rfl (dU G)
set_option maxHeartbeats 4000000 in
theorem l10Tell_any (v : Value) (m : Rr) (e : Ev) (ep off : Int) (w : World) (hv : RdReader v m w) (hl : m.out.length ≤ 1048576) :
  Calls Tryz.prog 54 #[v, e.val, .int .i64 ep, .int .i64 off] w (AnsV w (tellR m e ep off)) := by
 have ba : ∀ (w : World) o, Below w.heap.size w (w.alloc o) := fun w o => (Below.refl _ _).alloc (Nat.le_refl _) o
 have CC := dH fun W (hb : Below w.heap.size w W) => l10Copy_any v m W (hv.below hb) hl
 obtain ⟨a, cap, rfl, -⟩ := formReader hv
 obtain ⟨k0, k1, k2⟩ := e
 unfold Ev.val
 simp only
 have GO : Hid (∀ (W : World) (a : Option Addr) (c : Nat), ApV W w.heap.size (.slice a (m.out.length + 1) c) (m.out ++ [⟨k0, k1, k2⟩]) → Below w.heap.size w W → AnsV w (tellR m ⟨k0, k1, k2⟩ ep off) (.returned (.agg #[.int .i64 ep, .int .i64 off, .slice a (m.out.length + 1) c])) W) := fun W a c h1 h2 => ⟨a, c, by simp [tellR], by simpa [tellR] using h1, h2⟩
 generalize AnsV w (tellR m ⟨k0, k1, k2⟩ ep off) = Q at *
 unfold AnsV at CC
 generalize m.epoch = y0 at *
 generalize m.off = y1 at *
 generalize m.out = ms at *
 clear hv
 have X0 := (Bx.new (w.alloc (.cells #[.int .i64 y0, .int .i64 y1, .slice a ms.length cap] 45)) [.int .i64 k0, .int .i64 k1, .string k2] 53).below (ba _ (.cells #[.int .i64 0, .int .i64 0, .slice none 0 0] 45))
 have Y0 := BxZ.new (B := w.heap.size) ((w.alloc (.cells #[.int .i64 y0, .int .i64 y1, .slice a ms.length cap] 45)).alloc (.cells #[.int .i64 k0, .int .i64 k1, .string k2] 53)) [.int .i64 0, .int .i64 0, .slice none 0 0] 45 (by simp; omega)
 have B0 := bT (bT (ba w (.cells #[.int .i64 y0, .int .i64 y1, .slice a ms.length cap] 45)) (ba _ (.cells #[.int .i64 k0, .int .i64 k1, .string k2] 53))) (ba _ (.cells #[.int .i64 0, .int .i64 0, .slice none 0 0] 45))
 have e1 : (w.alloc (.cells #[.int .i64 y0, .int .i64 y1, .slice a ms.length cap] 45)).heap.size = w.heap.size + 1 := by simp
 have e2 : ((w.alloc (.cells #[.int .i64 y0, .int .i64 y1, .slice a ms.length cap] 45)).alloc (.cells #[.int .i64 k0, .int .i64 k1, .string k2] 53)).heap.size = w.heap.size + 1 + 1 := by simp
 rw [e1] at X0
 rw [e2] at Y0
 have e3 : Hid ((((w.alloc (.cells #[.int .i64 y0, .int .i64 y1, .slice a ms.length cap] 45)).alloc (.cells #[.int .i64 k0, .int .i64 k1, .string k2] 53)).alloc (.cells #[.int .i64 0, .int .i64 0, .slice none 0 0] 45)).heap.size = w.heap.size + 3) := by simp [Hid]
 clear e1 e2
 go_enter Tryz.func54, Tryz.ntmps54
 go_wp2_with fail
 generalize ((w.alloc (.cells #[.int .i64 y0, .int .i64 y1, .slice a ms.length cap] 45)).alloc (.cells #[.int .i64 k0, .int .i64 k1, .string k2] 53)).alloc (.cells #[.int .i64 0, .int .i64 0, .slice none 0 0] 45) = w0 at *
 refine (dU CC _ B0).mono ?_
 rintro e w1 ⟨a1, c1, rfl, O1, b1⟩
 have s0 := dU e3
 have s1 := b1.size
 have bO := ba w1 (.cells #[.int .i64 y0, .int .i64 y1, .slice a1 ms.length c1] 45)
 have bE := ba (w1.alloc (.cells #[.int .i64 y0, .int .i64 y1, .slice a1 ms.length c1] 45)) (.cells #[.int .i64 k0, .int .i64 k1, .string k2] 53)
 have X1 := X0.below (bT b1 bO)
 have HX1 := dH X1
 obtain ⟨x0, x1, x2⟩ : _ ∧ _ ∧ _ := ⟨X1 0 _ rfl, X1 1 _ rfl, X1 2 _ rfl⟩
 have Y2 := dH (Y0.below (bT b1 (bT bO bE)))
 have Z2 := (BxZ.new (B := w.heap.size + 3) w1 [.int .i64 y0, .int .i64 y1, .slice a1 ms.length c1] 45 (by omega)).below bE
 have HZ2 := dH Z2
 have O2 := dH (ApR.below (ApR.below O1 bO) bE)
 have NT : Hid (touch (.slice a1 ms.length c1) ≠ some w1.heap.size) := fun e => by have := (ApR.touched elemEvent O1 e).2; omega
 have NG := dH (fun k (e : touch (.slice a1 ms.length c1) = some k) => (ApR.touched elemEvent O1 e).1)
 have RE := rwV_one (w1.alloc (.cells #[.int .i64 y0, .int .i64 y1, .slice a1 ms.length c1] 45)) ⟨k0, k1, k2⟩ 53 1 (by omega)
 rw [show (w1.alloc (.cells #[.int .i64 y0, .int .i64 y1, .slice a1 ms.length c1] 45)).heap.size = w1.heap.size + 1 from by simp] at RE
 replace RE := dH RE
 have HB2 := dH (bT (bT (bT B0 b1) bO) bE)
 have s2 : Hid (((w1.alloc (.cells #[.int .i64 y0, .int .i64 y1, .slice a1 ms.length c1] 45)).alloc (.cells #[.int .i64 k0, .int .i64 k1, .string k2] 53)).heap.size = w1.heap.size + 2) := by simp [Hid]
 clear X0 Y0 B0 b1 CC X1 Z2 O1 bO bE e3
 go_wp2_with (
  at_builtin
  generalize hw3 : ((w1.alloc (.cells #[.int .i64 y0, .int .i64 y1, .slice a1 ms.length c1] 45)).alloc (.cells #[.int .i64 k0, .int .i64 k1, .string k2] 53)) = w3 at *
  refine wp_apR elemEvent rfl _ _ rfl w0.heap.size _ ms rfl (dU O2) _ [⟨k0, k1, k2⟩] rfl (dU RE) (by simp; omega) (by simp; omega) (by have := dU s2; omega) ?_
  intro u w4 O4 g4 t4
  clear hw3
  obtain ⟨ua, uc, eu⟩ : ∃ a c, u = .slice a (ms.length + 1) c := by
   obtain ⟨a, c, e⟩ := ApR.slice elemEvent O4
   exact ⟨a, c, by rw [e]; simp⟩
  subst eu
  have HO4 := dH O4
  have T4 : Hid (∀ k, touch (.slice ua (ms.length + 1) uc) = some k → w0.heap.size ≤ k ∧ k ≠ w1.heap.size) := fun k hk => by
   refine ⟨(ApR.touched elemEvent O4 hk).1, ?_⟩
   rcases t4 with t4 | t4
   ·rw [t4] at hk
    intro e
    subst e
    exact dU NT hk
   ·have := t4 k hk
    have := dU s2
    omega
  have HZ4 := dH ((dU HZ2).grown g4 (fun e => dU NT e))
  have HY4 := dH ((dU Y2).grown g4 (fun e => by have := dU NG _ e; omega))
  have HB4 := dH ((dU HB2).grown g4 (by have := dU s2; omega) (fun j hj => by have := dU NG _ hj; omega))
  obtain ⟨z0, p0⟩ := (dU HZ4).2 0 _ rfl
  obtain ⟨z1, p1⟩ := (dU HZ4).2 1 _ rfl
  obtain ⟨z2, p2⟩ := (dU HZ4).2 2 _ rfl
  obtain ⟨v0, q0⟩ := (dU HY4).2 0 _ rfl
  obtain ⟨v1, q1⟩ := (dU HY4).2 1 _ rfl
  obtain ⟨v2, q2⟩ := (dU HY4).2 2 _ rfl
  clear O4 g4 t4 O2 RE HX1 HZ2 Y2 HB2)
 have YY := dH (((((((dU HY4).far (b' := w1.heap.size) (o := 2) (by omega) (.slice ua (ms.length + 1) uc)).far (b' := w1.heap.size) (o := 0) (by omega) (.int .i64 ep)).far (b' := w1.heap.size) (o := 1) (by omega) (.int .i64 off)).put 0 (.int .i64 ep)).put 1 (.int .i64 off)).put 2 (.slice ua (ms.length + 1) uc))
 have OO := dH (ApR.put elemEvent (ApR.put elemEvent (ApR.put elemEvent (ApR.put elemEvent (ApR.put elemEvent (ApR.put elemEvent (dU HO4) (b := w1.heap.size) (o' := 2) (fun e => by have := dU T4 _ e; omega) (.slice ua (ms.length + 1) uc)) (b := w1.heap.size) (o' := 0) (fun e => by have := dU T4 _ e; omega) (.int .i64 ep)) (b := w1.heap.size) (o' := 1) (fun e => by have := dU T4 _ e; omega) (.int .i64 off)) (b := w.heap.size + 1 + 1) (o' := 0) (fun e => by have := dU T4 _ e; omega) (.int .i64 ep)) (b := w.heap.size + 1 + 1) (o' := 1) (fun e => by have := dU T4 _ e; omega) (.int .i64 off)) (b := w.heap.size + 1 + 1) (o' := 2) (fun e => by have := dU T4 _ e; omega) (.slice ua (ms.length + 1) uc))
 have B9 := dH (((((((dU HB4).setCell (p := ⟨w1.heap.size, 2, none⟩) (by simp only; omega) (.slice ua (ms.length + 1) uc)).setCell (p := ⟨w1.heap.size, 0, none⟩) (by simp only; omega) (.int .i64 ep)).setCell (p := ⟨w1.heap.size, 1, none⟩) (by simp only; omega) (.int .i64 off)).setCell (p := ⟨w.heap.size + 1 + 1, 0, none⟩) (by simp only; omega) (.int .i64 ep)).setCell (p := ⟨w.heap.size + 1 + 1, 1, none⟩) (by simp only; omega) (.int .i64 off)).setCell (p := ⟨w.heap.size + 1 + 1, 2, none⟩) (by simp only; omega) (.slice ua (ms.length + 1) uc))
 generalize ((((((w4.setCell ⟨w1.heap.size, 2, none⟩ (.slice ua (ms.length + 1) uc)).setCell ⟨w1.heap.size, 0, none⟩ (.int .i64 ep)).setCell ⟨w1.heap.size, 1, none⟩ (.int .i64 off)).setCell ⟨w.heap.size + 1 + 1, 0, none⟩ (.int .i64 ep)).setCell ⟨w.heap.size + 1 + 1, 1, none⟩ (.int .i64 off)).setCell ⟨w.heap.size + 1 + 1, 2, none⟩ (.slice ua (ms.length + 1) uc)) = V at *
 have q0 := ((dU YY).2 0 _ rfl).1
 have q1 := ((dU YY).2 1 _ rfl).1
 have q2 := ((dU YY).2 2 _ rfl).1
 refine bodyPost_ret (v := .agg #[.int .i64 ep, .int .i64 off, .slice ua (ms.length + 1) uc]) (by simp [results, Tryz.results54, go_sem, q0, q1, q2]) rfl (dU GO V _ _ (ApR.mono (dU OO) (by omega)) (dU B9))
end Go.Proofs.YtjkjmapibcfcdaaGreat
