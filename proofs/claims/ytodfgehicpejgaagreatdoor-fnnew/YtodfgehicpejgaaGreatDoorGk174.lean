/- Several texts in one: RcA, NxW. -/
import Derived.Test.YtodfgehicpejgaaGreatDoorCwA
import Derived.Test.YtodfgehicpejgaaGreatDoorGk178
import Derived.Test.YtodfgehicpejgaaGreatDoorGk169
import Derived.Test.YtodfgehicpejgaaGreatDoorGk182
import Derived.Test.YtodfgehicpejgaaGreatDoorGk158
import Derived.Test.YtodfgehicpejgaaGreatDoorGk153
import Derived.Deep.DeepCutAuto
import Derived.Test.YtodfgehicpejgaaGreatDoorGk149
import Derived.Test.YtodfgehicpejgaaGreatDoorImGb
import Derived.Test.YtodfgehicpejgaaGreatDoorGk172
import Derived.Deep.RegionHeld3
namespace Go.Proofs.YtodfgehicpejgaaGreatDoor
open Go.ChangeShapes Go.WideShapes Go.ChangeAt Go.RowKit
set_option linter.unusedSimpArgs false
set_option linter.unusedVariables false
set_option maxRecDepth 100000
def InB (W : World) (b : Nat) (m : Wo) : Prop := ∃ vs : List Value, vs.length = 11 ∧ Bx W b vs ∧ RdWorld (.agg vs.toArray) m W
theorem InB.below {W W' : World} {b : Nat} {m : Wo} (h : InB W b m) (hb : Below W.heap.size W W') : InB W' b m := by
 obtain ⟨vs, h1, h2, h3⟩ := h
 exact ⟨vs, h1, h2.below hb, h3.below hb⟩
theorem InB.cells {W : World} {b : Nat} {ds : List Int} {cop : Int} (h : InB W b (newW ds cop)) : ∃ da dc sa sc la lc ea ec wa wc na nc ra rc ta tc, Bx W b [.slice da ds.length dc, .int .i64 cop, .slice sa ds.length sc, .slice la 0 lc, .slice ea 0 ec, .int .i64 0, .slice wa 0 wc, .slice na 0 nc, .slice ra 2 rc, .slice ta 0 tc, .bool false] ∧
  Ns W (.slice da ds.length dc) ds ∧ RdStoreS (.slice sa ds.length sc) (List.replicate ds.length ⟨[], [], 0⟩) W ∧ Ns W (.slice la 0 lc) [] ∧ ec ≤ 9223372036854775807 ∧ RdReaderS (.slice ra 2 rc) [newR, newR] W ∧
  RdWorld (.agg #[.slice da ds.length dc, .int .i64 cop, .slice sa ds.length sc, .slice la 0 lc, .slice ea 0 ec, .int .i64 0, .slice wa 0 wc, .slice na 0 nc, .slice ra 2 rc, .slice ta 0 tc, .bool false]) (newW ds cop) W := by
 obtain ⟨vs, -, h2, h3⟩ := h
 have h3' := h3
 obtain ⟨da, dc, sa, sc, la, lc, ea, ec, wa, wc, na, nc, ra, rc, ta, tc, e, hd, hst, hlo, hre, hwr, hme, hrd, hse⟩ := partsWorld h3
 have e' := congrArg Array.toList (Value.agg.inj e)
 simp only [newW, List.length_replicate, List.length_nil, List.length_cons, Nat.zero_add, Nat.reduceAdd] at e' hd hst hlo hre hwr hme hrd hse
 subst e'
 have hec : ec ≤ 9223372036854775807 := by
  obtain ⟨rs, hm, ⟨-, a', c', e, h, -⟩, -⟩ := hre
  obtain rfl : rs = [] := List.map_eq_nil_iff.1 hm
  cases e
  exact h.2
 exact ⟨da, dc, sa, sc, la, lc, ea, ec, wa, wc, na, nc, ra, rc, ta, tc, h2, hd, hst, hlo, hec, hrd, h3'⟩
set_option maxHeartbeats 8000000 in
theorem reachNew_any (nb : Nat) (ds : List Int) (cop x : Int) (w : World) (h : InB w nb (newW ds cop)) :
  Calls Tryz.prog 108 #[.pointer (some ⟨nb, 0, none⟩), .int .i64 x] w fun e w' => e = .returned (.int .i64 (if 0 ≤ x ∧ x < (ds.length : Int) then 0 else 2)) ∧ Below w.heap.size w w' := by
 obtain ⟨da, dc, sa, sc, la, lc, ea, ec, wa, wc, na, nc, ra, rc, ta, tc, hb, hd, hst, hlo, hec, hrd, hw⟩ := h.cells
 clear h hw
 have CN := dH (containsI_any _ [] x w hlo)
 have c2 := hb 2 _ rfl
 have c3 := hb 3 _ rfl
 clear hb hd hst hlo hec hrd
 by_cases h0 : x < 0
 ·rw [if_neg (by omega)]
  have hd : decide (x < 0) = true := decide_eq_true h0
  clear CN
  go_enter Tryz.func108, Tryz.ntmps108
  go_wp2
  go_ret
  exact ⟨rfl, Below.refl _ _⟩
 ·have hd : decide (x < 0) = false := decide_eq_false h0
  by_cases h1 : (ds.length : Int) ≤ x
  ·rw [if_neg (by omega)]
   have hd2 : decide ((ds.length : Int) ≤ x) = true := decide_eq_true h1
   clear CN
   go_enter Tryz.func108, Tryz.ntmps108
   go_wp2
   go_ret
   exact ⟨rfl, Below.refl _ _⟩
  ·rw [if_pos (by omega)]
   have hd2 : decide ((ds.length : Int) ≤ x) = false := decide_eq_false h1
   go_enter Tryz.func108, Tryz.ntmps108
   go_wp2_with (go_at_call 195; refine (dU CN).mono ?_; rintro e w2 ⟨hR, rfl⟩; obtain rfl := hR.of_no (by simp))
   go_ret
   exact ⟨rfl, Below.refl _ _⟩
theorem rwAw_one (W : World) (a : Aw) (T : TypeId) : Rw 6 Aw.cl (W.alloc (.cells #[.int .i64 a.node, .bool a.has, .int .i64 a.ent.pl, .int .i64 a.ent.wave, .bool a.ent.hole, .string a.ent.data] T)) (.slice (some ⟨W.heap.size, 0, none⟩) 1 1) [a] :=
 ⟨by simp, _, 1, rfl, ⟨by simp, by omega⟩, .inr ⟨W.heap.size, 0, rfl, fun i hi j u hu => by
  have : i = 0 := by simpa using hi
  subst this
  have := Bx.new W [.int .i64 a.node, .bool a.has, .int .i64 a.ent.pl, .int .i64 a.ent.wave, .bool a.ent.hole, .string a.ent.data] T j u hu
  simpa using this⟩⟩
theorem getE_any (ka la : Option Addr) (kc lc : Nat) (x : Int) (w : World) (b1 : kc ≤ 9223372036854775807) (b2 : lc ≤ 9223372036854775807) :
  Calls Tryz.prog 197 #[.agg #[.slice ka 0 kc, .slice la 0 lc, .int .i64 0], .int .i64 x] w fun e w' => e = .returned (.tuple #[.agg #[.int .i64 0, .int .i64 0, .bool false, .string ⟨#[]⟩], .bool false]) ∧ Below w.heap.size w w' := by
 refine (implGet_any (.agg #[.slice ka 0 kc, .slice la 0 lc, .int .i64 0]) ⟨[], [], 0⟩ x w ⟨_, _, rfl, ⟨by simp, _, _, rfl, ⟨by simp, b1⟩, .inl rfl⟩, ⟨by simp, _, _, rfl, ⟨by simp, b2⟩, .inl rfl⟩⟩ (by simp [fitS, fitE])).mono ?_
 rintro e w1 ⟨rfl, hb⟩
 have e0 : getM ⟨[], [], 0⟩ x = none := by
  unfold getM
  split
  ·rfl
  ·rfl
 rw [e0]
 exact ⟨rfl, hb⟩
theorem InB.store {W : World} {b : Nat} {ds : List Int} {cop : Int} (h : InB W b (newW ds cop)) {j : Nat} (hj : j < ds.length) : ∃ bb off sc ka kc la lc, W.cell? ⟨b, 2, none⟩ = some (.slice (some ⟨bb, off, none⟩) ds.length sc) ∧
  W.cell? ⟨bb, off + j * 3, none⟩ = some (.slice ka 0 kc) ∧ W.cell? ⟨bb, off + j * 3 + 1, none⟩ = some (.slice la 0 lc) ∧ W.cell? ⟨bb, off + j * 3 + 2, none⟩ = some (.int .i64 0) ∧ kc ≤ 9223372036854775807 ∧ lc ≤ 9223372036854775807 := by
 obtain ⟨da, dc, sa, sc, la, lc, ea, ec, wa, wc, na, nc, ra, rc, ta, tc, hb, hd, ⟨rs, hm, hr, hst⟩, -⟩ := h.cells
 have hk' : j < rs.length := by have := congrArg List.length hm; simp at this; omega
 obtain ⟨bb, off, rfl, hc⟩ := hr.ps hk'
 obtain ⟨c0, c1, c2⟩ := hc j hk'
 have em : rs[j].m = ⟨[], [], 0⟩ := by
  have h1 := List.mem_map_of_mem (f := Ps.m) (List.getElem_mem hk')
  rw [hm] at h1
  exact List.eq_of_mem_replicate h1
 have hs := hst _ (List.getElem_mem hk')
 unfold psVal at hs
 rw [em] at c0 c1 c2 hs
 generalize rs[j] = p at *
 obtain ⟨ka, kc, la, lc, pm⟩ := p
 simp only [List.length_nil] at c0 c1 c2 hs
 obtain ⟨x1, x2, e, ⟨-, y1, y2, e1, y3, -⟩, ⟨-, y4, y5, e2, y6, -⟩⟩ := hs
 simp only [Value.agg.injEq, Array.mk.injEq, List.cons.injEq, and_true] at e
 obtain ⟨rfl, rfl⟩ := e
 cases e1
 cases e2
 exact ⟨bb, off, sc, ka, kc, la, lc, hb 2 _ rfl, c0, c1, c2, y3.2, y6.2⟩
def AwPost (w : World) (e : Ending) (w' : World) : Prop := ∃ u L, e = .returned u ∧ RdAnswerS u L w' ∧ L.length ≤ 8 ∧ (∀ a ∈ L, fitAw a) ∧ Below w.heap.size w w'
set_option maxHeartbeats 16000000 in
theorem answersNew_any (nb : Nat) (ds : List Int) (cop x mk : Int) (w : World) (h : InB w nb (newW ds cop)) (hl : ds.length ≤ 8) (hm : -9223372036854775808 ≤ mk ∧ mk ≤ 9223372036854775807) :
  Calls Tryz.prog 132 #[.pointer (some ⟨nb, 0, none⟩), .int .i64 mk, .int .i64 x] w (AwPost w) := by
 have ba : ∀ (w : World) o, Below w.heap.size w (w.alloc o) := fun w o => (Below.refl _ _).alloc (Nat.le_refl _) o
 have CM := dH (implMask_any mk w hm)
 have HI := dH fun W (hb : Below w.heap.size w W) => h.below hb
 have CR := dH fun W (hb : Below w.heap.size w W) y => reachNew_any nb ds cop y W (h.below hb)
 have hlen : (maskL mk).length ≤ 8 := by
  unfold maskL
  split
  ·exact bitsTo_len mk 8
  ·simp
 have hin : Hid (∀ y ∈ maskL mk, -9223372036854775808 ≤ y ∧ y ≤ 9223372036854775807) := by
  intro y hy
  unfold maskL at hy
  split at hy
  ·unfold bitsTo at hy
   obtain ⟨i, hi, rfl⟩ := List.mem_map.1 hy
   have := List.mem_range.1 (List.mem_filter.1 hi).1
   omega
  ·cases hy
 clear h
 generalize maskL mk = M at *
 go_enter Tryz.func132, Tryz.ntmps132
 go_wp2_with (go_at_call 100; refine (dU CM).mono ?_; rintro e w1 ⟨⟨o, rfl, O1⟩, b1⟩; obtain ⟨-, oa, oc, rfl, -, -⟩ := id O1; have HO := dH fun W (hb : Below w1.heap.size w1 W) => (O1.bs).below hb; clear O1)
 have hbw : Below w1.heap.size w1 w1 := Below.refl _ _
 go_loopw [7, 15] (fun o y wr => ∃ (k : Nat) (L : List Aw), y = .int .i64 (k : Int) ∧ k ≤ M.length ∧ L.length ≤ k ∧ Hid (∀ a ∈ L, fitAw a) ∧ Hid (ApR 248 6 Aw.cl wr w1.heap.size o L) ∧ Hid (Below w1.heap.size w1 wr)) (fun _ y _ => M.length - (intOf y).toNat)
 case atStart => exact ⟨0, [], rfl, Nat.zero_le _, Nat.le_refl _, (fun a ha => by cases ha), .inl ⟨rfl, _, rfl⟩, hbw⟩
 case round =>
  obtain ⟨k, L, rfl, hk, hL, hf, hA, hB⟩ := hrel
  have hB1 := dH (bT b1 (dU hB))
  by_cases hlt : (k : Int) < (M.length : Int)
  ·have hkl : k < M.length := by omega
   obtain ⟨-, a', c', e, -, hc⟩ := dU HO wr (dU hB)
   cases e
   rcases hc with rfl | ⟨b, off, rfl, hc⟩
   ·simp at hkl
   have c0 := hc k hkl
   have hy := dU hin _ (List.getElem_mem hkl)
   clear hc
   generalize M[k] = y at *
   by_cases hp : 0 ≤ y ∧ y < (ds.length : Int)
   ·have C0 := dH (dU CR wr (dU hB1) y)
    rw [if_pos hp] at C0
    obtain ⟨j, rfl⟩ : ∃ j : Nat, y = (j : Int) := ⟨y.toNat, by omega⟩
    have hj : j < ds.length := by omega
    go_wp2_with (go_at_call 108; refine (dU C0).mono ?_; rintro e w2 ⟨rfl, b2⟩; have hB2 := dH (bT (dU hB1) b2); have hb2 := dH (bT (dU hB) b2); have hA2 := dH (ApR.below (dU hA) b2); obtain ⟨bb, o2, sc, ka, kc, la, lc, q2, r0, r1, r2, k1, k2⟩ := (dU HI w2 (dU hB2)).store hj; have CG := dH (getE_any ka la kc lc x w2 k1 k2); clear b2 k1 k2)
    refine (dU CG).mono ?_
    rintro e w3 ⟨rfl, b3⟩
    replace hb2 := dH (bT (dU hb2) b3)
    replace hA2 := dH (ApR.below (dU hA2) b3)
    clear b3 CG q2 r0 r1 r2 hB2 c0
    have bA := ba w3 (.cells #[.int .i64 0, .int .i64 0, .bool false, .string ⟨#[]⟩] 156)
    have bA2 := bT bA (ba _ (.cells #[.int .i64 (j : Int), .bool false, .int .i64 0, .int .i64 0, .bool false, .string ⟨#[]⟩] 248))
    have RE := (rwAw_one (w3.alloc (.cells #[.int .i64 0, .int .i64 0, .bool false, .string ⟨#[]⟩] 156)) ⟨(j : Int), false, ⟨0, 0, false, ⟨#[]⟩⟩⟩ 248)
    rw [show (w3.alloc (.cells #[.int .i64 0, .int .i64 0, .bool false, .string ⟨#[]⟩] 156)).heap.size = w3.heap.size + 1 from by simp] at RE
    replace RE := dH RE
    have own4 := dH (ApR.below (dU hA2) bA2)
    have hb4 := dH (bT (dU hb2) bA2)
    have hs4 := (dU hb4).size
    clear hA2 hb2 bA bA2
    go_wp2_with (at_builtin; refine wp_apR elemAnswer rfl _ _ rfl w1.heap.size _ L rfl (dU own4) _ [⟨(j : Int), false, ⟨0, 0, false, ⟨#[]⟩⟩⟩] rfl (dU RE) ?c2 ?c3 ?c4 ?_)
    case c2 => first | omega | (simp; omega)
    case c3 => first | omega | (simp; omega)
    case c4 => first | omega | (simp at hs4 ⊢; omega)
    intro v' w5 own5 g5 t5
    have hb5 := dH (apR_after (w0 := w1) (ls := L) elemAnswer (dU own4) (dU hb4) hs4 (Nat.le_refl _) g5)
    replace own5 := dH own5
    clear g5 hb4 own4 hs4 RE t5
    go_wp2
    go_roundw
    case rel => exact ⟨k + 1, _, by go_num, by omega, by simp; omega, (fun a ha => by
     rcases List.mem_append.1 ha with h | h
     ·exact dU hf a h
     ·obtain rfl := List.mem_singleton.1 h
      exact ⟨by simp only; omega, by simp [Ent.fits]; exact Nat.zero_le _⟩), own5, hb5⟩
    case measure => simp [intOf]; omega
   ·have C0 := dH (dU CR wr (dU hB1) y)
    rw [if_neg hp] at C0
    go_wp2_with (go_at_call 108; refine (dU C0).mono ?_; rintro e w2 ⟨rfl, b2⟩; have hb2 := dH (bT (dU hB) b2); have hA2 := dH (ApR.below (dU hA) b2); clear b2)
    go_roundw
    case rel => exact ⟨k + 1, L, by go_num, by omega, by omega, hf, hA2, hb2⟩
    case measure => simp [intOf]; omega
  ·clear CR HI HO
   go_wp2
   go_ret
   exact ⟨_, L, rfl, (ApR.own elemAnswer (dU hA)).rw, by omega, dU hf, dU hB1⟩
set_option maxHeartbeats 4000000 in
theorem comesToNew_any (da ea ra : Option Addr) (dl dc ec rc : Nat) (cop sure : Int) (lv : Value) (w : World) (h1 : ec ≤ 9223372036854775807) :
  Calls Tryz.prog 223 #[.agg #[.int .i64 1, .int .i64 1, .slice ra 0 rc], .agg #[.slice da dl dc, .int .i64 cop], .agg #[.slice ea 0 ec, .int .i64 0], .int .i64 sure, lv] w fun e w' => e = .returned (.tuple #[.nilIface, .int .i64 2]) ∧ Below w.heap.size w w' := by
 have ba : ∀ (w : World) o, Below w.heap.size w (w.alloc o) := fun w o => (Below.refl _ _).alloc (Nat.le_refl _) o
 have HE := dH fun W => hasEpoch_any (.agg #[.slice ea 0 ec, .int .i64 0]) ⟨[], 0⟩ 1 W ⟨_, rfl, [], rfl, ⟨by simp, _, _, rfl, ⟨by simp, h1⟩, .inl rfl⟩, fun p hp => by cases hp⟩ (by unfold okInt; omega) (by simp)
 have bB := bT (bT (ba w (.cells #[.int .i64 1, .int .i64 1, .slice ra 0 rc] 54)) (ba _ (.cells #[.slice da dl dc, .int .i64 cop] 26))) (ba _ (.cells #[.slice ea 0 ec, .int .i64 0] 31))
 go_enter Tryz.func223, Tryz.ntmps223
 go_wp2_with (go_at_call 75; refine (dU HE _).mono ?_; rintro e w1 ⟨q1, b1⟩; obtain rfl := q1.of_no (by simp); replace b1 := bT bB b1)
 go_returns
 exact ⟨rfl, b1⟩
def NoNext (w : World) (e : Ending) (w' : World) : Prop := ∃ x y a c k, e = .returned (.tuple #[.agg #[.int .i64 x, .int .i64 y, .slice a 0 c], .int .i64 k]) ∧ k ≠ 0 ∧ (-9223372036854775808 ≤ k ∧ k ≤ 9223372036854775807) ∧ Below w.heap.size w w'
set_option maxHeartbeats 16000000 in
theorem nextNew_any (da ea ra : Option Addr) (dc ec rc : Nat) (ds : List Int) (cop sure : Int) (lv : Value) (L : List Aw) (w : World) (hd : Ns w (.slice da ds.length dc) ds) (h1 : ec ≤ 9223372036854775807) (h2 : rc ≤ 9223372036854775807) (hv : RdAnswerS lv L w) (hL : L.length ≤ 8) (hf : ∀ a ∈ L, fitAw a)
  (hp : cfgP ds cop) (ok : okConfig (ds, cop)) :
  Calls Tryz.prog 131 #[.agg #[.slice da ds.length dc, .int .i64 cop], .agg #[.slice ea 0 ec, .int .i64 0], .int .i64 sure, .agg #[.int .i64 1, .int .i64 1, .slice ra 0 rc], lv] w (NoNext w) := by
 have ba : ∀ (w : World) o, Below w.heap.size w (w.alloc o) := fun w o => (Below.refl _ _).alloc (Nat.le_refl _) o
 have hlen := hp.1.2
 have hal : ds.length ≤ 1048576 := by omega
 have CR := dH fun W (hb : Below w.heap.size w W) => implRegOk_any (.agg #[.slice da ds.length dc, .int .i64 cop]) (.agg #[.slice ea 0 ec, .int .i64 0]) (ds, cop) ⟨[], 0⟩ W ⟨_, rfl, hd.below hb⟩ ⟨_, rfl, [], rfl, ⟨by simp, _, _, rfl, ⟨by simp, h1⟩, .inl rfl⟩, fun p hp => by cases hp⟩ ok ⟨fun p hp => by simp at hp, by simp⟩ (by simpa [sizConfig] using hal) (by simp [sizRegister, sizEraS, sumN])
 have CK := dH fun W (hb : Below w.heap.size w W) => implReaderOk_any (.agg #[.int .i64 1, .int .i64 1, .slice ra 0 rc]) ⟨1, 1, []⟩ W ⟨_, rfl, ⟨by simp, _, _, rfl, ⟨by simp, h2⟩, .inl rfl⟩⟩
 have CA := dH fun W (hb : Below w.heap.size w W) => answeringNodes_any lv L W (RdAnswerS.below hv hb) (by omega)
 have CN := dH fun W (hb : Below w.heap.size w W) o (ho : Ns W o (L.map Aw.node)) => implNodes_any _ o ds (L.map Aw.node) cop W (hd.below hb) ho ok.1 (fun x hx => by
  obtain ⟨a, ha, rfl⟩ := List.mem_map.1 hx
  exact (hf a ha).1) hal (by rw [List.length_map]; omega) ok.2.1 ok.2.2
 have CM := dH fun W => comesToNew_any da ea ra ds.length dc ec rc cop sure lv W h1
 have CC := dH fun W => copiedR0_any ra rc W h2
 have PR : Hid (regP ds cop ⟨[], 0⟩) := (newWo_P hp).2.1.1
 have PK : Hid (rrP ⟨1, 1, []⟩) := (newWo_P hp).2.2.1.2 ⟨1, 1, []⟩ (by simp)
 obtain ⟨la, lc, rfl, -⟩ := formAnswerS hv
 clear hd hv hf hp ok hlen hal hL
 have hlm : (L.map Aw.node).length = L.length := List.length_map ..
 have B0 := bT (bT (bT (ba w (.cells #[.slice da ds.length dc, .int .i64 cop] 26)) (ba _ (.cells #[.slice ea 0 ec, .int .i64 0] 31))) (ba _ (.cells #[.int .i64 1, .int .i64 1, .slice ra 0 rc] 54))) (ba _ (.cells #[.int .i64 0, .int .i64 0, .slice none 0 0] 54))
 have X0 := (Bx.new w [.slice da ds.length dc, .int .i64 cop] 26).below (bT (bT (ba _ (.cells #[.slice ea 0 ec, .int .i64 0] 31)) (ba _ (.cells #[.int .i64 1, .int .i64 1, .slice ra 0 rc] 54))) (ba _ (.cells #[.int .i64 0, .int .i64 0, .slice none 0 0] 54)))
 have X1 := (Bx.new (w.alloc (.cells #[.slice da ds.length dc, .int .i64 cop] 26)) [.slice ea 0 ec, .int .i64 0] 31).below (bT (ba _ (.cells #[.int .i64 1, .int .i64 1, .slice ra 0 rc] 54)) (ba _ (.cells #[.int .i64 0, .int .i64 0, .slice none 0 0] 54)))
 have X2 := (Bx.new ((w.alloc (.cells #[.slice da ds.length dc, .int .i64 cop] 26)).alloc (.cells #[.slice ea 0 ec, .int .i64 0] 31)) [.int .i64 1, .int .i64 1, .slice ra 0 rc] 54).below (ba _ (.cells #[.int .i64 0, .int .i64 0, .slice none 0 0] 54))
 have X3 := BxZ.new (B := w.heap.size) (((w.alloc (.cells #[.slice da ds.length dc, .int .i64 cop] 26)).alloc (.cells #[.slice ea 0 ec, .int .i64 0] 31)).alloc (.cells #[.int .i64 1, .int .i64 1, .slice ra 0 rc] 54)) [.int .i64 0, .int .i64 0, .slice none 0 0] 54 (by simp; omega)
 rw [show (w.alloc (.cells #[.slice da ds.length dc, .int .i64 cop] 26)).heap.size = w.heap.size + 1 from by simp] at X1
 rw [show ((w.alloc (.cells #[.slice da ds.length dc, .int .i64 cop] 26)).alloc (.cells #[.slice ea 0 ec, .int .i64 0] 31)).heap.size = w.heap.size + 1 + 1 from by simp] at X2
 rw [show (((w.alloc (.cells #[.slice da ds.length dc, .int .i64 cop] 26)).alloc (.cells #[.slice ea 0 ec, .int .i64 0] 31)).alloc (.cells #[.int .i64 1, .int .i64 1, .slice ra 0 rc] 54)).heap.size = w.heap.size + 1 + 1 + 1 from by simp] at X3
 have hs0 : Hid (((((w.alloc (.cells #[.slice da ds.length dc, .int .i64 cop] 26)).alloc (.cells #[.slice ea 0 ec, .int .i64 0] 31)).alloc (.cells #[.int .i64 1, .int .i64 1, .slice ra 0 rc] 54)).alloc (.cells #[.int .i64 0, .int .i64 0, .slice none 0 0] 54)).heap.size = w.heap.size + 4) := by simp [Hid]
 go_enter Tryz.func131, Tryz.ntmps131
 go_upto_region 1 with fail
 generalize ((((w.alloc (.cells #[.slice da ds.length dc, .int .i64 cop] 26)).alloc (.cells #[.slice ea 0 ec, .int .i64 0] 31)).alloc (.cells #[.int .i64 1, .int .i64 1, .slice ra 0 rc] 54)).alloc (.cells #[.int .i64 0, .int .i64 0, .slice none 0 0] 54)) = w0 at *
 have hw0 := dU hs0
 have bdr : Below w0.heap.size w0 w0.drew := (Below.refl _ _).drew
 have PS : Hid (∀ (W : World), Below w0.heap.size w0 W → (W.cell? ⟨w.heap.size, 0, none⟩ = some (.slice da ds.length dc) ∧ W.cell? ⟨w.heap.size, 1, none⟩ = some (.int .i64 cop)) ∧ (W.cell? ⟨w.heap.size + 1, 0, none⟩ = some (.slice ea 0 ec) ∧ W.cell? ⟨w.heap.size + 1, 1, none⟩ = some (.int .i64 0)) ∧ W.cell? ⟨w.heap.size + 1 + 1, 0, none⟩ = some (.int .i64 1) ∧ W.cell? ⟨w.heap.size + 1 + 1, 1, none⟩ = some (.int .i64 1) ∧ W.cell? ⟨w.heap.size + 1 + 1, 2, none⟩ = some (.slice ra 0 rc)) := fun W hW =>
  ⟨⟨X0.below hW 0 _ rfl, X0.below hW 1 _ rfl⟩, ⟨X1.below hW 0 _ rfl, X1.below hW 1 _ rfl⟩, X2.below hW 0 _ rfl, X2.below hW 1 _ rfl, X2.below hW 2 _ rfl⟩
 have PZ : Hid (∀ W, Below w0.heap.size w0 W → BxZ W w.heap.size (w.heap.size + 1 + 1 + 1) [.int .i64 0, .int .i64 0, .slice none 0 0]) := fun W hW => X3.below hW
 clear X0 X1 X2 X3 hs0
 go_wp2_with fail
 have hcur := bdr
 refine wp_region_noPanic ?_
 refine wp_region_held_drew (S := fun W => (W.cell? ⟨w.heap.size, 0, none⟩ = some (.slice da ds.length dc) ∧ W.cell? ⟨w.heap.size, 1, none⟩ = some (.int .i64 cop)) ∧ (W.cell? ⟨w.heap.size + 1, 0, none⟩ = some (.slice ea 0 ec) ∧ W.cell? ⟨w.heap.size + 1, 1, none⟩ = some (.int .i64 0)) ∧ W.cell? ⟨w.heap.size + 1 + 1, 0, none⟩ = some (.int .i64 1) ∧ W.cell? ⟨w.heap.size + 1 + 1, 1, none⟩ = some (.int .i64 1) ∧ W.cell? ⟨w.heap.size + 1 + 1, 2, none⟩ = some (.slice ra 0 rc)) (by kernel_rfl) (by exact dU PS _ bdr) (fun hHeld => ?_)
 generalize w0.drew = wd at *
 refine tY 0 (v := ?_) rfl (by kernel_rfl) (.inl ⟨by rfl, ?_⟩) ‹_› ?_
 rotate_left 1
 ·intro w hSw
  (try dsimp only at hSw)
  first | (go_simp; done) | (go_simp; with_reducible rfl)
 try simp only [Act.put, sA, sB, sC]
 refine tY 1 (v := ?_) rfl (by kernel_rfl) (.inl ⟨by rfl, ?_⟩) ‹_› ?_
 rotate_left 1
 ·intro w hSw
  (try dsimp only at hSw)
  first | (go_simp; done) | (go_simp; with_reducible rfl)
 try simp only [Act.put, sA, sB, sC]
 refine wpAnyH_ready (rs := [2]) (by kernel_rfl) (by simp) ?_
 refine rC rfl (fun K hK => ?_) AllReadyH.nil
 go_simp
 refine (dU CR _ (bT B0 hcur)).mono ?_
 rintro e w1 ⟨q1, bl1⟩
 obtain rfl := q1.of_yes (dU PR)
 replace hcur := bT hcur bl1
 clear q1 bl1
 refine hK.out _ _ (by first | exact dU PS _ hcur | exact dU PS _ bdr) (fun hHeld => ?_)
 clear hK K
 try simp only [Act.put, sA, sB, sC]
 refine tY 3 (v := ?_) rfl (by kernel_rfl) (.inl ⟨by rfl, ?_⟩) ‹_› ?_
 rotate_left 1
 ·intro w hSw
  (try dsimp only at hSw)
  first | (go_simp; done) | (go_simp; with_reducible rfl)
 try simp only [Act.put, sA, sB, sC]
 refine tY 4 (v := ?_) rfl (by kernel_rfl) (.inl ⟨by rfl, ?_⟩) ‹_› ?_
 rotate_left 1
 ·intro w hSw
  (try dsimp only at hSw)
  first | (go_simp; done) | (go_simp; with_reducible rfl)
 try simp only [Act.put, sA, sB, sC]
 refine tY 5 (v := ?_) rfl (by kernel_rfl) (.inl ⟨by rfl, ?_⟩) ‹_› ?_
 rotate_left 1
 ·intro w hSw
  (try dsimp only at hSw)
  first | (go_simp; done) | (go_simp; with_reducible rfl)
 try simp only [Act.put, sA, sB, sC]
 refine wpAnyH_ready (rs := [6]) (by kernel_rfl) (by simp) ?_
 refine rC rfl (fun K hK => ?_) AllReadyH.nil
 go_simp
 refine (dU CK _ (bT B0 hcur)).mono ?_
 rintro e w1 ⟨q1, bl1⟩
 obtain rfl := q1.of_yes (dU PK)
 replace hcur := bT hcur bl1
 clear q1 bl1
 refine hK.out _ _ (by first | exact dU PS _ hcur | exact dU PS _ bdr) (fun hHeld => ?_)
 clear hK K
 try simp only [Act.put, sA, sB, sC]
 refine tY 7 (v := ?_) rfl (by kernel_rfl) (.inl ⟨by rfl, ?_⟩) ‹_› ?_
 rotate_left 1
 ·intro w hSw
  (try dsimp only at hSw)
  first | (go_simp; done) | (go_simp; with_reducible rfl)
 try simp only [Act.put, sA, sB, sC]
 refine tY 8 (v := ?_) rfl (by kernel_rfl) (.inl ⟨by rfl, ?_⟩) ‹_› ?_
 rotate_left 1
 ·intro w hSw
  (try dsimp only at hSw)
  first | (go_simp; done) | (go_simp; with_reducible rfl)
 try simp only [Act.put, sA, sB, sC]
 refine tY 9 (v := ?_) rfl (by kernel_rfl) (.inl ⟨by rfl, ?_⟩) ‹_› ?_
 rotate_left 1
 ·intro w hSw
  (try dsimp only at hSw)
  first | (go_simp; done) | (go_simp; with_reducible rfl)
 try simp only [Act.put, sA, sB, sC]
 refine tY 10 (v := ?_) rfl (by kernel_rfl) (.inl ⟨by rfl, ?_⟩) ‹_› ?_
 rotate_left 1
 ·intro w hSw
  (try dsimp only at hSw)
  first | (go_simp; done) | (go_simp; with_reducible rfl)
 try simp only [Act.put, sA, sB, sC]
 refine tY 11 (v := ?_) rfl (by kernel_rfl) (.inl ⟨by rfl, ?_⟩) ‹_› ?_
 rotate_left 1
 ·intro w hSw
  (try dsimp only at hSw)
  first | (go_simp; done) | (go_simp; with_reducible rfl)
 try simp only [Act.put, sA, sB, sC]
 refine wpAnyH_ready (rs := [12]) (by kernel_rfl) (by simp) ?_
 refine rC rfl (fun K hK => ?_) AllReadyH.nil
 go_simp
 refine (dU CA _ (bT B0 hcur)).mono ?_
 rintro e w1 ⟨⟨u, rfl, hO⟩, bl1⟩
 obtain ⟨oa, oc, rfl⟩ : ∃ a c, u = .slice a L.length c := by
  obtain ⟨-, a, c, e, -, -⟩ := hO
  rw [hlm] at e
  exact ⟨a, c, e⟩
 have NU := dH hO.bs
 replace hcur := bT hcur bl1
 clear hO bl1
 refine hK.out _ _ (by first | exact dU PS _ hcur | exact dU PS _ bdr) (fun hHeld => ?_)
 clear hK K
 try simp only [Act.put, sA, sB, sC]
 refine wpAnyH_ready (rs := [13]) (by kernel_rfl) (by simp) ?_
 refine rC rfl (fun K hK => ?_) AllReadyH.nil
 go_simp
 refine (dU CN _ (bT B0 hcur) _ (dU NU)).mono ?_
 rintro e w1 ⟨⟨b, rfl, -⟩, bl1⟩
 replace hcur := bT hcur bl1
 clear bl1
 refine hK.out _ _ (by first | exact dU PS _ hcur | exact dU PS _ bdr) (fun hHeld => ?_)
 clear hK K
 try simp only [Act.put, sA, sB, sC]
 refine tY 14 (v := ?_) rfl (by kernel_rfl) (.inl ⟨by rfl, ?_⟩) ‹_› ?_
 rotate_left 1
 ·intro w hSw
  (try dsimp only at hSw)
  first | (go_simp; done) | (go_simp; with_reducible rfl)
 try simp only [Act.put, sA, sB, sC]
 refine tY 15 (v := ?_) rfl (by kernel_rfl) (.inl ⟨by rfl, ?_⟩) ‹_› ?_
 rotate_left 1
 ·intro w hSw
  (try dsimp only at hSw)
  first | (go_simp; done) | (go_simp; with_reducible rfl)
 try simp only [Act.put, sA, sB, sC]
 refine wpAnyH_done (by kernel_rfl) ?_ _
 refine NoPanic.normal ?_
 have hB1 := dH (bT B0 hcur)
 obtain ⟨⟨s0, s1⟩, ⟨t0, t1⟩, r0, r1, r2⟩ := dU PS _ hcur
 obtain ⟨z0, f0⟩ := (dU PZ _ hcur).2 0 _ rfl
 obtain ⟨z1, f1⟩ := (dU PZ _ hcur).2 1 _ rfl
 obtain ⟨z2, f2⟩ := (dU PZ _ hcur).2 2 _ rfl
 clear CR CK CA CN PR PK NU
 cases b
 ·have Y := ((((dU PZ _ hcur).put 0 (.int .i64 0)).put 1 (.int .i64 0)).put 2 (.slice none 0 0))
  have BB := ((((dU hB1).setCell (p := ⟨w.heap.size + 1 + 1 + 1, 0, none⟩) (by simp only; omega) (.int .i64 0)).setCell (p := ⟨w.heap.size + 1 + 1 + 1, 1, none⟩) (by simp only; omega) (.int .i64 0)).setCell (p := ⟨w.heap.size + 1 + 1 + 1, 2, none⟩) (by simp only; omega) (.slice none 0 0))
  have q0 := (Y.2 0 _ rfl).1
  have q1 := (Y.2 1 _ rfl).1
  have q2 := (Y.2 2 _ rfl).1
  clear PS PZ CM CC Y
  go_wp2_with fail
  refine bodyPost_ret (v := .tuple #[.agg #[.int .i64 0, .int .i64 0, .slice none 0 0], .int .i64 1]) (by simp [results, Tryz.results131, go_sem, q0, q1, q2]) rfl ⟨0, 0, none, 0, 1, rfl, by decide, by omega, BB⟩
 ·go_wp2_with (first
   | (go_at_call 223; refine (dU CM _).mono ?_; rintro e w2 ⟨rfl, b2⟩; have hc2 := bT hcur b2; obtain ⟨-, -, r3, r4, r5⟩ := dU PS _ hc2; clear b2)
   | (go_at_call 46; refine (dU CC _).mono ?_; rintro e w3 ⟨⟨a3, c3, rfl, h3⟩, b3⟩; have hc3 := bT hc2 b3; have Y3 := dU PZ _ hc3; obtain ⟨y0, g0⟩ := Y3.2 0 _ rfl; obtain ⟨y1, g1⟩ := Y3.2 1 _ rfl; obtain ⟨y2, g2⟩ := Y3.2 2 _ rfl; have Y := (((Y3.put 0 (.int .i64 1)).put 1 (.int .i64 1)).put 2 (.slice a3 0 c3)); have q0 := (Y.2 0 _ rfl).1; have q1 := (Y.2 1 _ rfl).1; have q2 := (Y.2 2 _ rfl).1; clear b3)
   | fail)
  have BB := (((bT B0 hc3).setCell (p := ⟨w.heap.size + 1 + 1 + 1, 0, none⟩) (by simp only; omega) (.int .i64 1)).setCell (p := ⟨w.heap.size + 1 + 1 + 1, 1, none⟩) (by simp only; omega) (.int .i64 1)).setCell (p := ⟨w.heap.size + 1 + 1 + 1, 2, none⟩) (by simp only; omega) (.slice a3 0 c3)
  refine bodyPost_ret (v := .tuple #[.agg #[.int .i64 1, .int .i64 1, .slice a3 0 c3], .int .i64 2]) (by simp [results, Tryz.results131, go_sem, q0, q1, q2]) rfl ⟨1, 1, a3, c3, 2, rfl, by decide, by omega, BB⟩
end Go.Proofs.YtodfgehicpejgaaGreatDoor
